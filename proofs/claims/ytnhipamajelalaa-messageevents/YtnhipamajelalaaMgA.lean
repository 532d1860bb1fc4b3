/-
  Fields by their tags, in a map; bound, isInput, place, tagsOf.
-/
import Derived.Test.YtnhipamajelalaaRows
import Derived.WalkKit
import Derived.WalkSpells
import Derived.WalkLawsBesides
import Derived.RowKit3
import Derived.Maps.OwnOps
import Derived.Maps.OwnSet
import Derived.Deep.QuietTactic
import Derived.BigQuiet
import Derived.OpenShut
import Derived.Deep.OwnRows
namespace Go.Proofs.Ytnhipamajelalaa
open Go.RowKit Go.Maps Go.Deep Go.Lib
set_option linter.unusedVariables false
set_option linter.unusedSimpArgs false
theorem hid {p : Prop} (h : p) : Hid p := h
theorem ball (w : World) (o : Obj) : Below w.heap.size w (w.alloc o) := (Below.refl _ _).alloc (Nat.le_refl _) _
theorem btr {a b c : World} (h : Below a.heap.size a b) (k : Below b.heap.size b c) : Below a.heap.size a c := h.trans (k.mono h.size)
theorem cell_lt {w : World} {b i : Nat} {v : Value} (h : w.cell? ⟨b, i, none⟩ = some v) : b < w.heap.size := by
  unfold World.cell? at h
  rcases Nat.lt_or_ge b w.heap.size with h' | h'
  · exact h'
  · simp [Array.getElem?_eq_none h'] at h

theorem law3 : Keyed Try.prog 3 := int_keyed Try.underlying3
theorem zero22 (w : World) : (zeroValue 22).run Try.prog w = .ok (.int .u64 0) w := by kernel_rfl
/-- a field's number is a word. -/
def Wd (x : Int) : Prop := 0 ≤ x ∧ x < 18446744073709551616
theorem wf_u {x : Int} (h : Wd x) : (Lit.int .u64 x).wf = true := by
  obtain ⟨h1, h2⟩ := h
  simp [Lit.wf, IntKind.min, IntKind.max, IntKind.signed, IntKind.bits]
  omega
theorem wf_i {x : Int} (h1 : -9223372036854775808 ≤ x) (h2 : x < 9223372036854775808) : (Lit.int .i64 x).wf = true := WalkArith.wf_i64 (by omega)
/-- block b is a map of at most n entries that holds f (0 where nothing stands). -/
def Fm (w : World) (b n : Nat) (f : Int → Int) : Prop :=
  ∃ D : DataW Unit, w.ownsMap Try.prog 3 (plainElem Try.prog 22) b n D ∧ ∀ t, D.atKey (.int .i64 t) (.lit (.int .u64 0)) = .lit (.int .u64 (f t))
theorem Fm.lt {w : World} {b n : Nat} {f : Int → Int} (h : Fm w b n f) : b < w.heap.size := by
  obtain ⟨D, h, _⟩ := h
  exact h.lt
theorem Fm.on {w w' : World} {b n : Nat} {f : Int → Int} (h : Fm w b n f) (hb : Below w.heap.size w w') : Fm w' b n f := by
  have hl := h.lt
  obtain ⟨D, ⟨es, clock, h1, h2⟩, h3⟩ := h
  exact ⟨D, ⟨es, clock, (hb.block b hl).trans h1, h2⟩, h3⟩
theorem Fm.grown {w w' : World} {b n : Nat} {f : Int → Int} {row : Option Nat} (h : Fm w b n f) (hg : w.grownBy w' row) (hne : some b ≠ row) : Fm w' b n f := by
  obtain ⟨D, h1, h3⟩ := h
  exact ⟨D, h1.kept hg hne, h3⟩
theorem Fm.setCell {w : World} {b n : Nat} {f : Int → Int} (h : Fm w b n f) {a : Addr} (ha : b ≠ a.block) (u : Value) : Fm (w.setCell a u) b n f := by
  obtain ⟨D, h1, h3⟩ := h
  exact ⟨D, h1.setCell ha u, h3⟩
theorem Fm.drew {w : World} {b n : Nat} {f : Int → Int} (h : Fm w b n f) : Fm w.drew b n f := h
theorem Fm.made (w : World) : Fm (w.alloc (.map #[] 0)) w.heap.size 0 (fun _ => 0) := ⟨.map [], World.ownsMap_made _ _ _ _, fun t => rfl⟩
theorem Fm.look {w : World} {b n : Nat} {f : Int → Int} (h : Fm w b n f) (t : Int) (ht : (Lit.int .i64 t).wf = true) : (Instr.lookup 44 (.map (some b)) (.int .i64 t) false).run Try.prog w = .ok (.int .u64 (f t)) w := by
  obtain ⟨D, h1, h3⟩ := h
  obtain ⟨c, hr, hat, _⟩ := h1.lookup_int law3 Try.underlying44 Try.underlying22 (zero22 w) (keyOf_int_mk Try.underlying3 ht)
  rw [h3 t] at hat
  simp only [DataW.lit.injEq, Lit.int.injEq, true_and] at hat
  rw [hr, hat]
theorem Fm.wd {w : World} {b n : Nat} {f : Int → Int} (h : Fm w b n f) (t : Int) (ht : (Lit.int .i64 t).wf = true) : Wd (f t) := by
  obtain ⟨D, h1, h3⟩ := h
  obtain ⟨c, hr, hat, hw⟩ := h1.lookup_int law3 Try.underlying44 Try.underlying22 (zero22 w) (keyOf_int_mk Try.underlying3 ht)
  rw [h3 t] at hat
  simp only [DataW.lit.injEq, Lit.int.injEq, true_and] at hat
  subst hat
  have := bounds_u64 hw
  unfold Wd
  omega
def upd (f : Int → Int) (t c : Int) : Int → Int := fun s => if s = t then c else f s
theorem Fm.put {w : World} {b n : Nat} {f : Int → Int} (h : Fm w b n f) (hn : n < 1000) (t c : Int) (ht : (Lit.int .i64 t).wf = true) (hc : Wd c) :
    ∃ w', (Instr.mapUpdate 44 (.map (some b)) (.int .i64 t) (.int .u64 c)).run Try.prog w = .ok () w' ∧ Fm w' b (n + 1) (upd f t c) ∧ w.grownBy w' (some b) := by
  obtain ⟨D, h1, h3⟩ := h
  obtain ⟨w', hr, h4, h5⟩ := h1.update law3 Try.underlying44 (by unfold maxLen; omega) (keyOf_int_mk Try.underlying3 ht) (plainElem_int Try.underlying22 (wf_u hc))
  refine ⟨w', hr, ⟨_, h4, fun s => ?_⟩, h5⟩
  unfold upd
  by_cases e : s = t
  · subst e
    rw [if_pos rfl, atKey_put_same h1.isMap (by simp [WideAt.IsKeyLit])]
  · rw [if_neg e, atKey_put_other (by simp [e]), h3]
theorem wpList_fm_put (w : World) {ops : Array Oper} {rest : List Oper} {o : Oper} {a : Act} {Q : Exit → Act → World → Prop}
    (hg : o.guard = none) (m x v : Operand) (hop : o.op = Op.mapUpdate 44 m x v ∨ o.op = Op.insert 44 m x v) (b n : Nat) (f : Int → Int) (t c : Int)
    (hm : a.eval m = .map (some b)) (hx : a.eval x = .int .i64 t) (hv : a.eval v = .int .u64 c) (h : Fm w b n f) (hn : n < 1000) (ht : (Lit.int .i64 t).wf = true) (hc : Wd c)
    (hK : ∀ w', Fm w' b (n + 1) (upd f t c) → w.grownBy w' (some b) → wpList Try.prog ops Q rest (a.put o.dst undef) w') : wpList Try.prog ops Q (o :: rest) a w := by
  refine wpList_plain hg fun K' hK' => ?_
  obtain ⟨w', hrun, r1, r2⟩ := h.put hn t c ht hc
  unfold Oper.wp
  rcases hop with hop | hop
  · simp [execOp, hop, hm, hx, hv, hrun, Result.andThen]
    exact hK' _ _ (hK w' r1 r2)
  · simp [execOp, hop, hm, hx, hv, hrun, Result.andThen]
    exact hK' _ _ (hK w' r1 r2)

/-- numbers in a row of memory. -/
def Sn (w : World) (q : Option Addr) (l : List Int) : Prop := ∀ i (h : i < l.length), ∃ b o, q = some ⟨b, o, none⟩ ∧ w.cell? ⟨b, o + i, none⟩ = some (.int .i64 l[i])
theorem Sn.on {w w' : World} {q : Option Addr} {l : List Int} (h : Sn w q l) (hb : Below w.heap.size w w') : Sn w' q l := fun i hi => by
  obtain ⟨b, o, e, hc⟩ := h i hi
  exact ⟨b, o, e, (hb.cell (cell_lt hc)).trans hc⟩
theorem sn_new (w : World) (cs : Array Value) (l : List Int) (h : cs.toList = l.map (fun x => Value.int .i64 x)) : Sn (w.alloc (.cells cs 3)) (some ⟨w.heap.size, 0, none⟩) l := by
  intro i hi
  refine ⟨w.heap.size, 0, rfl, ?_⟩
  have h1 : cs[i]? = some (.int .i64 l[i]) := by
    rw [← Array.getElem?_toList, h]
    simp [hi]
  rw [Nat.zero_add, World.cell?_alloc_new]
  exact h1
def tagsL (k : Int) : List Int :=
  if k = 1 then [11, 1, 54, 40, 44, 38, 210] else
  if k = 2 then [41] else
  if k = 3 then [41, 11, 44, 38, 210] else
  if k = 4 then [9001] else
  if k = 65 then [34, 11, 1, 54, 40, 44, 38, 210] else
  if k = 66 then [34, 11, 41, 103] else
  if k = 67 then [34, 11, 37, 54, 44, 38] else
  if k = 68 then [34, 11, 38, 378] else
  if k = 69 then [34, 11, 44, 38] else []

def bnd (t : Int) : Int :=
  if t = 54 then 255 else if t = 40 then 255 else if t = 378 then 255 else if t = 9001 then 255 else if t = 1 then 4294967295 else if t = 44 then 4294967295 else if t = 103 then 4294967295 else 18446744073709551615

def plU (t : Int) : Int :=
  if t = 11 then 1 else if t = 9001 then 1 else if t = 41 then 2 else if t = 37 then 2 else if t = 1 then 3 else if t = 54 then 3 else if t = 40 then 3 else if t = 378 then 3 else if t = 44 then 4 else if t = 103 then 4 else if t = 38 then 5 else if t = 210 then 6 else 0

def plB (t : Int) : Int :=
  if t = 54 then 32 else if t = 40 then 40 else if t = 378 then 48 else if t = 103 then 32 else 0

def plW (k t : Int) : Int := if 1 ≤ k ∧ k ≤ 4 then plU t - 1 else plU t
theorem bound_any (t : Int) (w : World) : Calls Try.prog 36 #[.int .i64 t] w fun e w' => e = .returned (.int .u64 (bnd t)) ∧ w' = w := by
  unfold bnd
  by_cases h0 : t = 54
  · subst h0
    go_enter Try.func36, Try.ntmps36
    go_wp2
    go_ret
    exact ⟨by simp, rfl⟩
  by_cases h1 : t = 40
  · subst h1
    go_enter Try.func36, Try.ntmps36
    go_wp2
    go_ret
    exact ⟨by simp, rfl⟩
  by_cases h2 : t = 378
  · subst h2
    go_enter Try.func36, Try.ntmps36
    go_wp2
    go_ret
    exact ⟨by simp, rfl⟩
  by_cases h3 : t = 9001
  · subst h3
    go_enter Try.func36, Try.ntmps36
    go_wp2
    go_ret
    exact ⟨by simp, rfl⟩
  by_cases h4 : t = 1
  · subst h4
    go_enter Try.func36, Try.ntmps36
    go_wp2
    go_ret
    exact ⟨by simp, rfl⟩
  by_cases h5 : t = 44
  · subst h5
    go_enter Try.func36, Try.ntmps36
    go_wp2
    go_ret
    exact ⟨by simp, rfl⟩
  by_cases h6 : t = 103
  · subst h6
    go_enter Try.func36, Try.ntmps36
    go_wp2
    go_ret
    exact ⟨by simp, rfl⟩
  go_enter Try.func36, Try.ntmps36
  go_wp2
  go_ret
  exact ⟨by simp [h0, h1, h2, h3, h4, h5, h6], rfl⟩

theorem isInput_any (k : Int) (w : World) : Calls Try.prog 20 #[.int .u8 k] w fun e w' => e = .returned (.bool (decide (1 ≤ k ∧ k ≤ 4))) ∧ w' = w := by
  by_cases h1 : 1 ≤ k
  · by_cases h2 : k ≤ 4
    · go_enter Try.func20, Try.ntmps20
      go_wp2
      go_ret
      exact ⟨by simp [h1, h2], rfl⟩
    · go_enter Try.func20, Try.ntmps20
      go_wp2
      go_ret
      exact ⟨by simp [h1, h2], rfl⟩
  · go_enter Try.func20, Try.ntmps20
    go_wp2
    go_ret
    exact ⟨by simp; omega, rfl⟩
set_option maxHeartbeats 1000000 in
theorem place_any (k t : Int) (w : World) : Calls Try.prog 34 #[.int .u8 k, .int .i64 t] w fun e w' => e = .returned (.tuple #[.int .i64 (plW k t), .int .i64 (plB t)]) ∧ w' = w := by
  unfold plW
  by_cases h0 : t = 11
  · subst h0
    by_cases hi : 1 ≤ k ∧ k ≤ 4
    · rw [if_pos hi] at *
      have IK := isInput_any k
      rw [show decide (1 ≤ k ∧ k ≤ 4) = true from by simp [hi]] at IK
      clear hi
      go_enter Try.func34, Try.ntmps34
      go_wp2_with (go_at_call 20; refine (IK _).mono ?_; rintro e w' ⟨rfl, rfl⟩)
      go_ret2
      exact ⟨by simp [plU, plB], rfl⟩
    · rw [if_neg hi] at *
      have IK := isInput_any k
      rw [show decide (1 ≤ k ∧ k ≤ 4) = false from by simp [hi]] at IK
      clear hi
      go_enter Try.func34, Try.ntmps34
      go_wp2_with (go_at_call 20; refine (IK _).mono ?_; rintro e w' ⟨rfl, rfl⟩)
      go_ret2
      exact ⟨by simp [plU, plB], rfl⟩
  by_cases h1 : t = 9001
  · subst h1
    by_cases hi : 1 ≤ k ∧ k ≤ 4
    · rw [if_pos hi] at *
      have IK := isInput_any k
      rw [show decide (1 ≤ k ∧ k ≤ 4) = true from by simp [hi]] at IK
      clear hi
      go_enter Try.func34, Try.ntmps34
      go_wp2_with (go_at_call 20; refine (IK _).mono ?_; rintro e w' ⟨rfl, rfl⟩)
      go_ret2
      exact ⟨by simp [plU, plB], rfl⟩
    · rw [if_neg hi] at *
      have IK := isInput_any k
      rw [show decide (1 ≤ k ∧ k ≤ 4) = false from by simp [hi]] at IK
      clear hi
      go_enter Try.func34, Try.ntmps34
      go_wp2_with (go_at_call 20; refine (IK _).mono ?_; rintro e w' ⟨rfl, rfl⟩)
      go_ret2
      exact ⟨by simp [plU, plB], rfl⟩
  by_cases h2 : t = 41
  · subst h2
    by_cases hi : 1 ≤ k ∧ k ≤ 4
    · rw [if_pos hi] at *
      have IK := isInput_any k
      rw [show decide (1 ≤ k ∧ k ≤ 4) = true from by simp [hi]] at IK
      clear hi
      go_enter Try.func34, Try.ntmps34
      go_wp2_with (go_at_call 20; refine (IK _).mono ?_; rintro e w' ⟨rfl, rfl⟩)
      go_ret2
      exact ⟨by simp [plU, plB], rfl⟩
    · rw [if_neg hi] at *
      have IK := isInput_any k
      rw [show decide (1 ≤ k ∧ k ≤ 4) = false from by simp [hi]] at IK
      clear hi
      go_enter Try.func34, Try.ntmps34
      go_wp2_with (go_at_call 20; refine (IK _).mono ?_; rintro e w' ⟨rfl, rfl⟩)
      go_ret2
      exact ⟨by simp [plU, plB], rfl⟩
  by_cases h3 : t = 37
  · subst h3
    by_cases hi : 1 ≤ k ∧ k ≤ 4
    · rw [if_pos hi] at *
      have IK := isInput_any k
      rw [show decide (1 ≤ k ∧ k ≤ 4) = true from by simp [hi]] at IK
      clear hi
      go_enter Try.func34, Try.ntmps34
      go_wp2_with (go_at_call 20; refine (IK _).mono ?_; rintro e w' ⟨rfl, rfl⟩)
      go_ret2
      exact ⟨by simp [plU, plB], rfl⟩
    · rw [if_neg hi] at *
      have IK := isInput_any k
      rw [show decide (1 ≤ k ∧ k ≤ 4) = false from by simp [hi]] at IK
      clear hi
      go_enter Try.func34, Try.ntmps34
      go_wp2_with (go_at_call 20; refine (IK _).mono ?_; rintro e w' ⟨rfl, rfl⟩)
      go_ret2
      exact ⟨by simp [plU, plB], rfl⟩
  by_cases h4 : t = 1
  · subst h4
    by_cases hi : 1 ≤ k ∧ k ≤ 4
    · rw [if_pos hi] at *
      have IK := isInput_any k
      rw [show decide (1 ≤ k ∧ k ≤ 4) = true from by simp [hi]] at IK
      clear hi
      go_enter Try.func34, Try.ntmps34
      go_wp2_with (go_at_call 20; refine (IK _).mono ?_; rintro e w' ⟨rfl, rfl⟩)
      go_ret2
      exact ⟨by simp [plU, plB], rfl⟩
    · rw [if_neg hi] at *
      have IK := isInput_any k
      rw [show decide (1 ≤ k ∧ k ≤ 4) = false from by simp [hi]] at IK
      clear hi
      go_enter Try.func34, Try.ntmps34
      go_wp2_with (go_at_call 20; refine (IK _).mono ?_; rintro e w' ⟨rfl, rfl⟩)
      go_ret2
      exact ⟨by simp [plU, plB], rfl⟩
  by_cases h5 : t = 54
  · subst h5
    by_cases hi : 1 ≤ k ∧ k ≤ 4
    · rw [if_pos hi] at *
      have IK := isInput_any k
      rw [show decide (1 ≤ k ∧ k ≤ 4) = true from by simp [hi]] at IK
      clear hi
      go_enter Try.func34, Try.ntmps34
      go_wp2_with (go_at_call 20; refine (IK _).mono ?_; rintro e w' ⟨rfl, rfl⟩)
      go_ret2
      exact ⟨by simp [plU, plB], rfl⟩
    · rw [if_neg hi] at *
      have IK := isInput_any k
      rw [show decide (1 ≤ k ∧ k ≤ 4) = false from by simp [hi]] at IK
      clear hi
      go_enter Try.func34, Try.ntmps34
      go_wp2_with (go_at_call 20; refine (IK _).mono ?_; rintro e w' ⟨rfl, rfl⟩)
      go_ret2
      exact ⟨by simp [plU, plB], rfl⟩
  by_cases h6 : t = 40
  · subst h6
    by_cases hi : 1 ≤ k ∧ k ≤ 4
    · rw [if_pos hi] at *
      have IK := isInput_any k
      rw [show decide (1 ≤ k ∧ k ≤ 4) = true from by simp [hi]] at IK
      clear hi
      go_enter Try.func34, Try.ntmps34
      go_wp2_with (go_at_call 20; refine (IK _).mono ?_; rintro e w' ⟨rfl, rfl⟩)
      go_ret2
      exact ⟨by simp [plU, plB], rfl⟩
    · rw [if_neg hi] at *
      have IK := isInput_any k
      rw [show decide (1 ≤ k ∧ k ≤ 4) = false from by simp [hi]] at IK
      clear hi
      go_enter Try.func34, Try.ntmps34
      go_wp2_with (go_at_call 20; refine (IK _).mono ?_; rintro e w' ⟨rfl, rfl⟩)
      go_ret2
      exact ⟨by simp [plU, plB], rfl⟩
  by_cases h7 : t = 378
  · subst h7
    by_cases hi : 1 ≤ k ∧ k ≤ 4
    · rw [if_pos hi] at *
      have IK := isInput_any k
      rw [show decide (1 ≤ k ∧ k ≤ 4) = true from by simp [hi]] at IK
      clear hi
      go_enter Try.func34, Try.ntmps34
      go_wp2_with (go_at_call 20; refine (IK _).mono ?_; rintro e w' ⟨rfl, rfl⟩)
      go_ret2
      exact ⟨by simp [plU, plB], rfl⟩
    · rw [if_neg hi] at *
      have IK := isInput_any k
      rw [show decide (1 ≤ k ∧ k ≤ 4) = false from by simp [hi]] at IK
      clear hi
      go_enter Try.func34, Try.ntmps34
      go_wp2_with (go_at_call 20; refine (IK _).mono ?_; rintro e w' ⟨rfl, rfl⟩)
      go_ret2
      exact ⟨by simp [plU, plB], rfl⟩
  by_cases h8 : t = 44
  · subst h8
    by_cases hi : 1 ≤ k ∧ k ≤ 4
    · rw [if_pos hi] at *
      have IK := isInput_any k
      rw [show decide (1 ≤ k ∧ k ≤ 4) = true from by simp [hi]] at IK
      clear hi
      go_enter Try.func34, Try.ntmps34
      go_wp2_with (go_at_call 20; refine (IK _).mono ?_; rintro e w' ⟨rfl, rfl⟩)
      go_ret2
      exact ⟨by simp [plU, plB], rfl⟩
    · rw [if_neg hi] at *
      have IK := isInput_any k
      rw [show decide (1 ≤ k ∧ k ≤ 4) = false from by simp [hi]] at IK
      clear hi
      go_enter Try.func34, Try.ntmps34
      go_wp2_with (go_at_call 20; refine (IK _).mono ?_; rintro e w' ⟨rfl, rfl⟩)
      go_ret2
      exact ⟨by simp [plU, plB], rfl⟩
  by_cases h9 : t = 103
  · subst h9
    by_cases hi : 1 ≤ k ∧ k ≤ 4
    · rw [if_pos hi] at *
      have IK := isInput_any k
      rw [show decide (1 ≤ k ∧ k ≤ 4) = true from by simp [hi]] at IK
      clear hi
      go_enter Try.func34, Try.ntmps34
      go_wp2_with (go_at_call 20; refine (IK _).mono ?_; rintro e w' ⟨rfl, rfl⟩)
      go_ret2
      exact ⟨by simp [plU, plB], rfl⟩
    · rw [if_neg hi] at *
      have IK := isInput_any k
      rw [show decide (1 ≤ k ∧ k ≤ 4) = false from by simp [hi]] at IK
      clear hi
      go_enter Try.func34, Try.ntmps34
      go_wp2_with (go_at_call 20; refine (IK _).mono ?_; rintro e w' ⟨rfl, rfl⟩)
      go_ret2
      exact ⟨by simp [plU, plB], rfl⟩
  by_cases h10 : t = 38
  · subst h10
    by_cases hi : 1 ≤ k ∧ k ≤ 4
    · rw [if_pos hi] at *
      have IK := isInput_any k
      rw [show decide (1 ≤ k ∧ k ≤ 4) = true from by simp [hi]] at IK
      clear hi
      go_enter Try.func34, Try.ntmps34
      go_wp2_with (go_at_call 20; refine (IK _).mono ?_; rintro e w' ⟨rfl, rfl⟩)
      go_ret2
      exact ⟨by simp [plU, plB], rfl⟩
    · rw [if_neg hi] at *
      have IK := isInput_any k
      rw [show decide (1 ≤ k ∧ k ≤ 4) = false from by simp [hi]] at IK
      clear hi
      go_enter Try.func34, Try.ntmps34
      go_wp2_with (go_at_call 20; refine (IK _).mono ?_; rintro e w' ⟨rfl, rfl⟩)
      go_ret2
      exact ⟨by simp [plU, plB], rfl⟩
  by_cases h11 : t = 210
  · subst h11
    by_cases hi : 1 ≤ k ∧ k ≤ 4
    · rw [if_pos hi] at *
      have IK := isInput_any k
      rw [show decide (1 ≤ k ∧ k ≤ 4) = true from by simp [hi]] at IK
      clear hi
      go_enter Try.func34, Try.ntmps34
      go_wp2_with (go_at_call 20; refine (IK _).mono ?_; rintro e w' ⟨rfl, rfl⟩)
      go_ret2
      exact ⟨by simp [plU, plB], rfl⟩
    · rw [if_neg hi] at *
      have IK := isInput_any k
      rw [show decide (1 ≤ k ∧ k ≤ 4) = false from by simp [hi]] at IK
      clear hi
      go_enter Try.func34, Try.ntmps34
      go_wp2_with (go_at_call 20; refine (IK _).mono ?_; rintro e w' ⟨rfl, rfl⟩)
      go_ret2
      exact ⟨by simp [plU, plB], rfl⟩
  by_cases hi : 1 ≤ k ∧ k ≤ 4
  · rw [if_pos hi] at *
    have IK := isInput_any k
    rw [show decide (1 ≤ k ∧ k ≤ 4) = true from by simp [hi]] at IK
    clear hi
    go_enter Try.func34, Try.ntmps34
    go_wp2_with (go_at_call 20; refine (IK _).mono ?_; rintro e w' ⟨rfl, rfl⟩)
    go_ret2
    exact ⟨by simp [plU, plB, h0, h1, h2, h3, h4, h5, h6, h7, h8, h9, h10, h11], rfl⟩
  · rw [if_neg hi] at *
    have IK := isInput_any k
    rw [show decide (1 ≤ k ∧ k ≤ 4) = false from by simp [hi]] at IK
    clear hi
    go_enter Try.func34, Try.ntmps34
    go_wp2_with (go_at_call 20; refine (IK _).mono ?_; rintro e w' ⟨rfl, rfl⟩)
    go_ret2
    exact ⟨by simp [plU, plB, h0, h1, h2, h3, h4, h5, h6, h7, h8, h9, h10, h11], rfl⟩

def TagsP (k : Int) (w : World) (e : Ending) (w' : World) : Prop := ∃ q cap, e = .returned (.slice q (tagsL k).length cap) ∧ Sn w' q (tagsL k) ∧ Below w.heap.size w w'
set_option maxHeartbeats 1000000 in
theorem tags_any (k : Int) (w : World) : Calls Try.prog 33 #[.int .u8 k] w fun e w' => TagsP k w e w' := by
  by_cases h0 : k = 1
  · subst h0
    go_enter Try.func33, Try.ntmps33
    go_wp2
    go_ret
    exact ⟨some ⟨w.heap.size, 0, none⟩, 7, rfl, sn_new w _ [11, 1, 54, 40, 44, 38, 210] rfl, ball _ _⟩
  by_cases h1 : k = 2
  · subst h1
    go_enter Try.func33, Try.ntmps33
    go_wp2
    go_ret
    exact ⟨some ⟨w.heap.size, 0, none⟩, 1, rfl, sn_new w _ [41] rfl, ball _ _⟩
  by_cases h2 : k = 3
  · subst h2
    go_enter Try.func33, Try.ntmps33
    go_wp2
    go_ret
    exact ⟨some ⟨w.heap.size, 0, none⟩, 5, rfl, sn_new w _ [41, 11, 44, 38, 210] rfl, ball _ _⟩
  by_cases h3 : k = 4
  · subst h3
    go_enter Try.func33, Try.ntmps33
    go_wp2
    go_ret
    exact ⟨some ⟨w.heap.size, 0, none⟩, 1, rfl, sn_new w _ [9001] rfl, ball _ _⟩
  by_cases h4 : k = 65
  · subst h4
    go_enter Try.func33, Try.ntmps33
    go_wp2
    go_ret
    exact ⟨some ⟨w.heap.size, 0, none⟩, 8, rfl, sn_new w _ [34, 11, 1, 54, 40, 44, 38, 210] rfl, ball _ _⟩
  by_cases h5 : k = 66
  · subst h5
    go_enter Try.func33, Try.ntmps33
    go_wp2
    go_ret
    exact ⟨some ⟨w.heap.size, 0, none⟩, 4, rfl, sn_new w _ [34, 11, 41, 103] rfl, ball _ _⟩
  by_cases h6 : k = 67
  · subst h6
    go_enter Try.func33, Try.ntmps33
    go_wp2
    go_ret
    exact ⟨some ⟨w.heap.size, 0, none⟩, 6, rfl, sn_new w _ [34, 11, 37, 54, 44, 38] rfl, ball _ _⟩
  by_cases h7 : k = 68
  · subst h7
    go_enter Try.func33, Try.ntmps33
    go_wp2
    go_ret
    exact ⟨some ⟨w.heap.size, 0, none⟩, 4, rfl, sn_new w _ [34, 11, 38, 378] rfl, ball _ _⟩
  by_cases h8 : k = 69
  · subst h8
    go_enter Try.func33, Try.ntmps33
    go_wp2
    go_ret
    exact ⟨some ⟨w.heap.size, 0, none⟩, 4, rfl, sn_new w _ [34, 11, 44, 38] rfl, ball _ _⟩
  have e : tagsL k = [] := by simp [tagsL, h0, h1, h2, h3, h4, h5, h6, h7, h8]
  go_enter Try.func33, Try.ntmps33
  go_wp2
  go_ret
  unfold TagsP
  rw [e]
  exact ⟨none, 0, rfl, fun i hi => absurd hi (by simp), Below.refl _ _⟩

end Go.Proofs.Ytnhipamajelalaa
