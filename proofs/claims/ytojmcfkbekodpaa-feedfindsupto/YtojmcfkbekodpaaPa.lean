/-
  A book of two lists in memory.
-/
import Derived.Test.YtojmcfkbekodpaaChecked
import Derived.WalkKit
import Derived.WalkLawsBesides
import Derived.RowKit3
import Derived.Deep.OwnRows
import Derived.BigQuiet
import Derived.Deep.QuietTactic
import Derived.Laws.Rows
import Derived.Laws.OwnMore
import Derived.Deep.RegionHeld3
import Derived.Deep.RegionWith
import Derived.Deep.AppendLies
import Derived.Shelf.Strconv.Itoa0
import Derived.RangeFuncRecord
namespace Go.Proofs.Ytojmcfkbekodpaa
open Go.RowKit Go.Deep
set_option linter.unusedVariables false
set_option linter.unusedSimpArgs false
theorem hid {p : Prop} (h : p) : Hid p := h
theorem ball (w : World) (o : Obj) : Below w.heap.size w (w.alloc o) := (Below.refl _ _).alloc (Nat.le_refl _) _
theorem btr {a b c : World} (h : Below a.heap.size a b) (k : Below b.heap.size b c) : Below a.heap.size a c := h.trans (k.mono h.size)
theorem row_cell {w : World} {g : Nat} {t : TypeId} {cs : Array Value} (h : w.heap[g]? = some (.cells cs t (0, 0))) (j : Nat) : w.cell? ⟨g, j, none⟩ = cs[j]? := cell_of_row w g j cs t (0, 0) h
theorem row_frz {w : World} {g : Nat} {t : TypeId} {cs : Array Value} (h : w.heap[g]? = some (.cells cs t (0, 0))) (j : Nat) : w.frozen? ⟨g, j, none⟩ = false := frozen_of_row w g j cs t h
theorem row_lt {w : World} {g : Nat} {o : Obj} (h : w.heap[g]? = some o) : g < w.heap.size := (Array.getElem?_eq_some_iff.1 h).1
theorem row_on {w w' : World} {g : Nat} {o : Obj} (h : w.heap[g]? = some o) (hb : Below w.heap.size w w') : w'.heap[g]? = some o := by
  rw [hb.block g (row_lt h)]; exact h
theorem row_ne {w : World} {g k : Nat} {t u : TypeId} {c d : Array Value} (h : w.heap[g]? = some (.cells c t (0, 0))) (k' : w.heap[k]? = some (.cells d u (0, 0))) (ne : t ≠ u) : g ≠ k := by
  rintro rfl
  rw [h] at k'
  injection k' with k'
  injection k' with _ k'
  exact ne k'
theorem bdrew (w : World) (n : Nat) : Below w.heap.size w (w.drewN n) := ⟨rfl, rfl, rfl, Nat.le_refl _, fun _ _ => rfl⟩
theorem bdrew1 (w : World) : Below w.heap.size w w.drew := ⟨rfl, rfl, rfl, Nat.le_refl _, fun _ _ => rfl⟩
/-- all blocks but some are as they were. -/
structure Kp (B : Nat → Prop) (w w' : World) : Prop where
  os : w'.os = w.os
  tape : w'.tape = w.tape
  output : w'.output = w.output
  size : w.heap.size ≤ w'.heap.size
  obj : ∀ b, b < w.heap.size → ¬ B b → w'.heap[b]? = w.heap[b]?
theorem Kp.refl (B : Nat → Prop) (w : World) : Kp B w w := ⟨rfl, rfl, rfl, Nat.le_refl _, fun _ _ _ => rfl⟩
theorem Kp.trans {B C : Nat → Prop} {a b c : World} (h : Kp B a b) (k : Kp C b c) (hC : ∀ g, g < a.heap.size → C g → B g) : Kp B a c :=
  ⟨k.os.trans h.os, k.tape.trans h.tape, k.output.trans h.output, Nat.le_trans h.size k.size, fun g hg hB => (k.obj g (Nat.lt_of_lt_of_le hg h.size) (fun hc => hB (hC g hg hc))).trans (h.obj g hg hB)⟩
theorem Kp.mono {B C : Nat → Prop} {a b : World} (h : Kp B a b) (hm : ∀ g, g < a.heap.size → B g → C g) : Kp C a b :=
  ⟨h.os, h.tape, h.output, h.size, fun g hg hC => h.obj g hg (fun hB => hC (hm g hg hB))⟩
theorem Kp.row {B : Nat → Prop} {w w' : World} (h : Kp B w w') {g : Nat} {o : Obj} (e : w.heap[g]? = some o) (hB : ¬ B g) : w'.heap[g]? = some o := (h.obj g (row_lt e) hB).trans e
theorem Kp.below {B : Nat → Prop} {w w' : World} (h : Kp B w w') {n : Nat} (hn : n ≤ w.heap.size) (hB : ∀ g, g < n → ¬ B g) : Below n w w' :=
  ⟨h.os, h.tape, h.output, h.size, fun g hg => h.obj g (Nat.lt_of_lt_of_le hg hn) (hB g hg)⟩
theorem Kp.of {w w' : World} (B : Nat → Prop) (h : Below w.heap.size w w') : Kp B w w' := ⟨h.os, h.tape, h.output, h.size, fun g hg _ => h.block g hg⟩
theorem Kp.set (w : World) (N i : Nat) (v : Value) : Kp (fun b => b = N) w (w.setCell ⟨N, i, none⟩ v) :=
  ⟨rfl, rfl, rfl, by simp [World.setCell], fun b _ hN => heap_setCell_other _ _ _ _ (by show b ≠ N; exact hN)⟩

theorem own_same {base : Nat} {w w' : World} {e : TypeId} {size n : Nat} {v : Value} {xs : List Value} (h : w.ownsRow base e size v n xs) (hs : ∀ g, v.ownBlock = some g → w'.heap[g]? = w.heap[g]?) : w'.ownsRow base e size v n xs := by
  obtain ⟨h1, h2 | ⟨g, c, cur, rfl, r1, r2, r⟩⟩ := h
  · exact ⟨h1, .inl h2⟩
  · exact ⟨h1, .inr ⟨g, c, cur, rfl, r1, (hs g rfl).trans r2, r⟩⟩
theorem own_ty {base : Nat} {w : World} {e : TypeId} {size n : Nat} {v : Value} {xs : List Value} (h : w.ownsRow base e size v n xs) {g : Nat} (hg : v.ownBlock = some g) : ∃ cur, w.heap[g]? = some (.cells cur e (0, 0)) := by
  obtain ⟨h1, ⟨rfl, _⟩ | ⟨g', c, cur, rfl, r1, r2, r⟩⟩ := h
  · cases hg
  · cases hg; exact ⟨cur, r2⟩
theorem own_on {base : Nat} {w w' : World} {e : TypeId} {size n : Nat} {v : Value} {xs : List Value} (h : w.ownsRow base e size v n xs) (hb : Below w.heap.size w w') : w'.ownsRow base e size v n xs :=
  own_same h (fun g hg => by obtain ⟨c, e⟩ := own_ty h hg; exact hb.block g (row_lt e))
theorem own_base {base base' : Nat} {w : World} {e : TypeId} {size n : Nat} {v : Value} {xs : List Value} (h : w.ownsRow base e size v n xs) (hb : base' ≤ base) : w.ownsRow base' e size v n xs := by
  obtain ⟨h1, h2 | ⟨g, c, cur, h2, r1, r⟩⟩ := h
  · exact ⟨h1, .inl h2⟩
  · exact ⟨h1, .inr ⟨g, c, cur, h2, Nat.le_trans hb r1, r⟩⟩

/-- an order. -/
structure Or where
  id : Int
  mb : Int
  ty : Int
  pr : Int
  vi : Int
  hi : Int
  pk : Int
def orow (o : Or) : Array Value := #[.int .u64 o.id, .int .u32 o.mb, .int .i64 o.ty, .int .i64 o.pr, .int .u64 o.vi, .int .u64 o.hi, .int .u64 o.pk]
/-- orders with their blocks. -/
abbrev LO := List (Nat × Or)
def pv (b : Nat) : Value := .pointer (some ⟨b, 0, none⟩)
def pvs (l : LO) : List Value := l.map fun x => pv x.1
theorem pvs_len (l : LO) : (pvs l).length = l.length := by simp [pvs]
/-- a slice begins a block. -/
def OfP (p : Option Addr) (b : Nat) : Prop := p = some ⟨b, 0, none⟩
theorem OfP.mk (g : Nat) : OfP (some ⟨g, 0, none⟩) g := rfl
theorem OfP.eq {g b : Nat} (h : OfP (some ⟨g, 0, none⟩) b) : b = g := by injection h with h; injection h with h; exact h.symm
/-- a list of orders in memory. -/
structure Li (w : World) (p : Option Addr) (c : Nat) (l : LO) : Prop where
  own : w.ownsRow 0 100 1 (.slice p l.length c) l.length (pvs l)
  at' : ∀ x ∈ l, w.heap[x.1]? = some (.cells (orow x.2) 86 (0, 0))
theorem Li.some {w : World} {p : Option Addr} {c : Nat} {l : LO} (h : Li w p c l) (hl : 0 < l.length) : ∃ g cur, p = some ⟨g, 0, none⟩ ∧ w.heap[g]? = some (.cells cur 100 (0, 0)) ∧ cur.size = c ∧ l.length ≤ c ∧ c ≤ maxLen ∧ ∀ i (hi : i < l.length), cur[i]? = some (pv (l[i]).1) := by
  obtain ⟨h1, ⟨e, e2⟩ | ⟨g, c', cur, e, r1, r2, r3, r4, r5, r6⟩⟩ := h.own
  · omega
  · obtain ⟨rfl, _, rfl⟩ := Value.slice.inj e
    refine ⟨g, cur, rfl, r2, by omega, r3, r4, fun i hi => ?_⟩
    have := congrArg (fun z => z[i]?) r6
    simp only [Nat.mul_one, List.getElem?_take, hi, if_true, Array.getElem?_toList] at this
    rw [this]
    simp [pvs, hi]
theorem Li.cell {w : World} {p : Option Addr} {c : Nat} {l : LO} (h : Li w p c l) {i : Nat} (hi : i < l.length) : ∃ g, p = Option.some ⟨g, 0, none⟩ ∧ w.cell? ⟨g, i, none⟩ = Option.some (pv (l[i]).1) ∧ w.heap[(l[i]).1]? = Option.some (.cells (orow (l[i]).2) 86 (0, 0)) := by
  obtain ⟨g, cur, rfl, r, _, _, _, hc⟩ := h.some (by omega)
  exact ⟨g, rfl, by rw [row_cell r]; exact hc i hi, h.at' _ (List.getElem_mem hi)⟩
theorem Li.on {w w' : World} {p : Option Addr} {c : Nat} {l : LO} (h : Li w p c l) (hb : Below w.heap.size w w') : Li w' p c l :=
  ⟨own_on h.own hb, fun x hx => row_on (h.at' x hx) hb⟩
theorem Li.kept {w w' : World} {B : Nat → Prop} {p : Option Addr} {c : Nat} {l : LO} (h : Li w p c l) (hk : Kp B w w') (h1 : ∀ g, p = Option.some ⟨g, 0, none⟩ → ¬ B g) (h2 : ∀ x ∈ l, ¬ B x.1) : Li w' p c l := by
  refine ⟨own_same h.own (fun g hg => ?_), fun x hx => hk.row (h.at' x hx) (h2 x hx)⟩
  obtain ⟨cur, e⟩ := own_ty h.own hg
  refine hk.obj g (row_lt e) ?_
  obtain ⟨_, ⟨e, _⟩ | ⟨g', c', cur, e, _⟩⟩ := h.own
  · rw [e] at hg; cases hg
  · have e5 := (Value.slice.inj e).1
    rw [e] at hg; cases hg
    exact h1 _ e5
end Go.Proofs.Ytojmcfkbekodpaa
namespace Go.Proofs.Ytojmcfkbekodpaa
open Go.RowKit Go.Deep
set_option linter.unusedVariables false
set_option linter.unusedSimpArgs false
set_option maxHeartbeats 1000000
set_option maxRecDepth 100000
/-- a price is better for a side. -/
def btt (s p q : Int) : Bool := if s = 1 then decide (q < p) else decide (p < q)
theorem better_any (s p q : Int) (w : World) : Calls Try.prog 63 #[.int .i64 s, .int .i64 p, .int .i64 q] w fun e w' => e = .returned (.bool (btt s p q)) ∧ w' = w := by
  by_cases h : s = 1
  · subst h
    go_enter Try.func63, Try.ntmps63
    go_wp2
    go_ret
    exact ⟨by simp [btt], rfl⟩
  · have h1 : (s == 1) = false := by simpa using h
    go_enter Try.func63, Try.ntmps63
    go_wp2
    go_ret
    exact ⟨by simp [btt, h], rfl⟩
/-- the other side. -/
def oth (s : Int) : Int := if s = 1 then 2 else 1
theorem other_any (s : Int) (w : World) : Calls Try.prog 69 #[.int .i64 s] w fun e w' => e = .returned (.int .i64 (oth s)) ∧ w' = w := by
  by_cases h : s = 1
  · subst h
    go_enter Try.func69, Try.ntmps69
    go_wp2
    go_ret
    exact ⟨by simp [oth], rfl⟩
  · have h1 : (s == 1) = false := by simpa using h
    go_enter Try.func69, Try.ntmps69
    go_wp2
    go_ret
    exact ⟨by simp [oth, h], rfl⟩
def rst (k : Int) : Bool := k == 1 || k == 5
theorem rests_any (k : Int) (w : World) : Calls Try.prog 47 #[.int .i64 k] w fun e w' => e = .returned (.bool (rst k)) ∧ w' = w := by
  by_cases h : k = 1
  · subst h
    go_enter Try.func47, Try.ntmps47
    go_wp2
    go_ret
    exact ⟨by simp [rst], rfl⟩
  · have h1 : (k == 1) = false := by simpa using h
    go_enter Try.func47, Try.ntmps47
    go_wp2
    go_ret
    exact ⟨by simp [rst, h1], rfl⟩
/-- what is shown and what is held back. -/
def shw (pk q : Int) : Int × Int := if pk = 0 ∨ q < pk then (q, 0) else (pk, q - pk)
theorem shown_any (pk q : Int) (w : World) (h0 : 0 ≤ pk) (h1 : q < 18446744073709551616) : Calls Try.prog 76 #[.int .u64 pk, .int .u64 q] w fun e w' => e = .returned (.tuple #[.int .u64 (shw pk q).1, .int .u64 (shw pk q).2]) ∧ w' = w := by
  by_cases h : pk = 0
  · subst h
    go_enter Try.func76, Try.ntmps76
    go_wp2
    go_ret2
    exact ⟨by simp [shw], rfl⟩
  · have h2 : (pk == 0) = false := by simpa using h
    by_cases h3 : q < pk
    · go_enter Try.func76, Try.ntmps76
      go_wp2
      go_ret2
      exact ⟨by simp [shw, h3], rfl⟩
    · have h4 : IntKind.u64.wrap (q - pk) = q - pk := by rw [IntKind.wrap_u64]; omega
      go_enter Try.func76, Try.ntmps76
      go_wp2
      go_ret2
      exact ⟨by simp [shw, h, show ¬ q < pk by omega], rfl⟩
theorem find1_any (b X : Nat) (o : Or) (id : Int) (w : World) (hb : w.heap[b]? = some (.cells (orow o) 86 (0, 0))) (hX : w.cell? ⟨X, 0, none⟩ = some (.int .u64 id)) :
    Calls Try.prog 73 #[pv b, .pointer (some ⟨X, 0, none⟩)] w fun e w' => e = .returned (.bool (o.id == id)) ∧ ∃ n, w' = w.drewN n := by
  have c0 := row_cell hb 0
  simp only [orow, List.getElem?_toArray, List.getElem?_cons_zero] at c0
  clear hb
  unfold pv
  go_enter Try.func73, Try.ntmps73
  go_wp2
  go_quiet (fail)
  go_wp2
  go_ret
  exact ⟨rfl, _, rfl⟩
/-- where the order of an ID stands, or -1. -/
def fnd (id : Int) : LO → Int
  | [] => -1
  | x :: l => if x.2.id = id then 0 else if fnd id l = -1 then -1 else fnd id l + 1
theorem fnd_ge (id : Int) : ∀ l : LO, -1 ≤ fnd id l ∧ fnd id l < l.length := by
  intro l
  induction l with
  | nil => simp [fnd]
  | cons x l ih => unfold fnd; simp only [List.length_cons]; split; omega; split <;> omega
theorem fnd_none {id : Int} : ∀ {l : LO}, (∀ x ∈ l, x.2.id ≠ id) → fnd id l = -1
  | [], _ => rfl
  | x :: l, h => by
    unfold fnd
    rw [if_neg (h x (by simp)), if_pos (fnd_none (fun y hy => h y (by simp [hy])))]
theorem fnd_at {id : Int} : ∀ {l : LO} {i : Nat} (hi : i < l.length), (∀ j (hj : j < i), (l[j]).2.id ≠ id) → (l[i]).2.id = id → fnd id l = i
  | x :: l, 0, hi, _, h => by unfold fnd; rw [if_pos (by simpa using h)]; rfl
  | x :: l, i + 1, hi, ha, h => by
    unfold fnd
    have e := fnd_at (l := l) (i := i) (by simpa using hi) (fun j hj => by have := ha (j + 1) (by omega); simpa using this) (by simpa using h)
    rw [if_neg (by have := ha 0 (by omega); simpa using this), e, if_neg (by omega)]
    omega
theorem indexFunc_any (p : Option Addr) (c X : Nat) (l : LO) (id : Int) (w : World) (h : Li w p c l) (hX : w.cell? ⟨X, 0, none⟩ = some (.int .u64 id)) (hXs : X < w.heap.size) (hn : l.length ≤ 1048576) :
    Calls Try.prog 72 #[.slice p l.length c, .func (.func 73) #[] #[.pointer (some ⟨X, 0, none⟩)]] w fun e w' => e = .returned (.int .i64 (fnd id l)) ∧ Below w.heap.size w w' := by
  have HL := hid h
  have HX := hid hX
  clear h hX
  go_enter Try.func72, Try.ntmps72
  go_wp2
  go_loopw [8] (fun iv wr => ∃ i : Nat, i ≤ l.length ∧ iv = .int .i64 i ∧ Hid (∀ j (hj : j < i) (hl : j < l.length), (l[j]).2.id ≠ id) ∧ Hid (Below w.heap.size w wr)) (fun iv _ => l.length - (intOf iv).toNat)
  case atStart => exact ⟨0, by omega, rfl, fun j hj => by omega, Below.refl _ _⟩
  case round =>
    obtain ⟨i, hi, rfl, HJ, HB⟩ := hrel
    by_cases hlt : i < l.length
    · obtain ⟨g, hp, hc, hr⟩ := (HL.out.on HB.out).cell hlt
      subst hp
      have C1 := hid (find1_any (l[i]).1 X (l[i]).2 id wr hr ((HB.out.cell hXs).trans HX.out))
      obtain ⟨z, hz⟩ : ∃ z, (l[i]).2 = z := ⟨_, rfl⟩
      obtain ⟨bl, hbl⟩ : ∃ z, (l[i]).1 = z := ⟨_, rfl⟩
      rw [hbl] at hc C1
      rw [hz] at C1
      have i0 : (0 : Int) ≤ (i : Int) := by omega
      have i1 : (i : Int) < (l.length : Int) := by omega
      by_cases hid' : z.id = id
      · have h1 : (z.id == id) = true := by simpa using hid'
        rw [h1] at C1
        have HZ := hid hz
        have HI := hid hid'
        clear hz hid' h1 hr hbl
        go_wp2_with (go_at_call 73; with_reducible refine (C1.out).mono ?_; rintro e w1 ⟨rfl, n, rfl⟩)
        go_ret
        exact ⟨by rw [fnd_at hlt (fun j hj => HJ.out j hj (by omega)) (by rw [HZ.out]; exact HI.out)]; rfl, HB.out.trans ((bdrew _ _).mono HB.out.size)⟩
      · have h1 : (z.id == id) = false := by simpa using hid'
        rw [h1] at C1
        have HZ := hid hz
        have HI := hid hid'
        clear hz hid' h1 hr hbl
        go_wp2_with (go_at_call 73; with_reducible refine (C1.out).mono ?_; rintro e w1 ⟨rfl, n, rfl⟩)
        go_roundw
        case rel =>
          refine ⟨i + 1, by omega, by go_num, fun j hj hl => ?_, HB.out.trans ((bdrew _ _).mono HB.out.size)⟩
          by_cases hji : j = i
          · subst hji; rw [HZ.out]; exact HI.out
          · exact HJ.out j (by omega) hl
        case measure => simp [intOf]; omega
    · have hi5 : i = l.length := by omega
      subst hi5
      go_wp2
      go_ret
      exact ⟨by rw [fnd_none (fun x hx => by obtain ⟨j, hj, rfl⟩ := List.getElem_of_mem hx; exact HJ.out j hj hj)]; rfl, HB.out⟩
theorem find_any (p : Option Addr) (c : Nat) (l : LO) (id : Int) (w : World) (h : Li w p c l) (hn : l.length ≤ 1048576) :
    Calls Try.prog 53 #[.slice p l.length c, .int .u64 id] w fun e w' => e = .returned (.int .i64 (fnd id l)) ∧ Below w.heap.size w w' := by
  have C := hid (indexFunc_any p c w.heap.size l id (w.alloc (.cells #[.int .u64 id] 33)) (h.on (ball _ _)) (by rw [row_cell (World.alloc_heap_new _ _)]; rfl) (by simp) hn)
  clear h
  go_enter Try.func53, Try.ntmps53
  go_wp2_with (go_at_call 72; with_reducible refine (C.out).mono ?_; rintro e w1 ⟨rfl, hb⟩)
  go_ret
  exact ⟨rfl, (ball _ _).trans (hb.mono (by simp))⟩
end Go.Proofs.Ytojmcfkbekodpaa
namespace Go.Proofs.Ytojmcfkbekodpaa
open Go.RowKit Go.Deep
set_option linter.unusedVariables false
set_option linter.unusedSimpArgs false
set_option maxHeartbeats 1000000
set_option maxRecDepth 100000
/-- how many stand at a price or ahead of it. -/
def bhd (s p : Int) (l : LO) : Nat := (l.takeWhile fun x => !btt s p x.2.pr).length
theorem bhd_le (s p : Int) (l : LO) : bhd s p l ≤ l.length := by
  unfold bhd
  have := (List.takeWhile_prefix (fun x : Nat × Or => !btt s p x.2.pr) (l := l)).length_le
  exact this
theorem bhd_eq {s p : Int} : ∀ {l : LO} {i : Nat}, i ≤ l.length → (∀ k (hk : k < l.length), k < i → btt s p (l[k]).2.pr = false) → (∀ (hk : i < l.length), btt s p (l[i]).2.pr = true) → bhd s p l = i
  | [], i, hi, _, _ => by simp at hi; subst hi; rfl
  | x :: l, 0, hi, _, h2 => by
    have := h2 (by simp)
    simp only [List.getElem_cons_zero] at this
    simp [bhd, List.takeWhile_cons, this]
  | x :: l, i + 1, hi, h1, h2 => by
    have a := h1 0 (by simp) (by omega)
    simp only [List.getElem_cons_zero] at a
    have e := bhd_eq (s := s) (p := p) (l := l) (i := i) (by simpa using hi) (fun k hk hki => by have := h1 (k + 1) (by simpa using hk) (by omega); simpa using this) (fun hk => by have := h2 (by simpa using hk); simpa using this)
    unfold bhd at e ⊢
    simp [List.takeWhile_cons, a, e]
/-- a side stands in its order. -/
def Srt (s : Int) (l : LO) : Prop := ∀ i j (hi : i < l.length) (hj : j < l.length), i < j → btt s (l[j]).2.pr (l[i]).2.pr = false
theorem Srt.up {s : Int} {l : LO} (h : Srt s l) (p : Int) {i j : Nat} (hi : i < l.length) (hj : j < l.length) (hij : i ≤ j) (ht : btt s p (l[i]).2.pr = true) : btt s p (l[j]).2.pr = true := by
  by_cases e : i = j
  · subst e; exact ht
  · have a := h i j hi hj (by omega)
    unfold btt at *
    split at ht <;> simp_all <;> omega
theorem behind1_any (S P L : Nat) (s p : Int) (q : Option Addr) (c : Nat) (l : LO) (i : Nat) (hi : i < l.length) (w : World) (h : Li w q c l) (hS : w.cell? ⟨S, 0, none⟩ = some (.int .i64 s)) (hP : w.cell? ⟨P, 0, none⟩ = some (.int .i64 p)) (hL : w.cell? ⟨L, 0, none⟩ = some (.slice q l.length c)) :
    Calls Try.prog 62 #[.int .i64 i, .pointer (some ⟨S, 0, none⟩), .pointer (some ⟨P, 0, none⟩), .pointer (some ⟨L, 0, none⟩)] w fun e w' => e = .returned (.bool (btt s p (l[i]).2.pr)) ∧ ∃ n, w' = w.drewN n := by
  obtain ⟨g, rfl, hc, hr⟩ := h.cell hi
  have c3 := row_cell hr 3
  simp only [orow, List.getElem?_toArray, List.getElem?_cons_succ, List.getElem?_cons_zero] at c3
  obtain ⟨z, hz⟩ : ∃ z, (l[i]).2 = z := ⟨_, rfl⟩
  obtain ⟨bl, hbl⟩ : ∃ z, (l[i]).1 = z := ⟨_, rfl⟩
  rw [hbl] at hc c3
  rw [hz] at c3 ⊢
  unfold pv at hc
  have i0 : (0 : Int) ≤ (i : Int) := by omega
  have i1 : (i : Int) < (l.length : Int) := by omega
  clear h hr hz hbl
  go_enter Try.func62, Try.ntmps62
  go_wp2
  go_quiet ((go_at_call 63; exact Calls.quiet_of_same (better_any _ _ _ _)))
  go_wp2
  go_ret
  exact ⟨rfl, _, rfl⟩
theorem shr1 (n : Nat) (h : n < 9223372036854775808) : IntKind.u64.wrap ((n : Int)) = n := by rw [IntKind.wrap_u64]; omega
theorem search_any (S P L : Nat) (s p : Int) (q : Option Addr) (c : Nat) (l : LO) (w : World) (h : Li w q c l) (hsS : S < w.heap.size) (hsP : P < w.heap.size) (hsL : L < w.heap.size) (hS : w.cell? ⟨S, 0, none⟩ = some (.int .i64 s)) (hP : w.cell? ⟨P, 0, none⟩ = some (.int .i64 p)) (hL : w.cell? ⟨L, 0, none⟩ = some (.slice q l.length c)) (hn : l.length ≤ 1048576) (ho : Srt s l) :
    Calls Try.prog 61 #[.int .i64 l.length, .func (.func 62) #[] #[.pointer (some ⟨S, 0, none⟩), .pointer (some ⟨P, 0, none⟩), .pointer (some ⟨L, 0, none⟩)]] w fun e w' => e = .returned (.int .i64 (bhd s p l)) ∧ Below w.heap.size w w' := by
  have HL := hid h
  have HC := hid (And.intro hS (And.intro hP hL))
  have HO := hid ho
  clear h hS hP hL ho
  go_enter Try.func61, Try.ntmps61
  go_wp2
  go_loopw [5, 6] (fun iv jv wr => ∃ i j : Nat, i ≤ j ∧ j ≤ l.length ∧ iv = .int .i64 i ∧ jv = .int .i64 j ∧ Hid (∀ k (hk : k < l.length), k < i → btt s p (l[k]).2.pr = false) ∧ Hid (∀ k (hk : k < l.length), j ≤ k → btt s p (l[k]).2.pr = true) ∧ Hid (Below w.heap.size w wr)) (fun iv jv _ => (intOf jv).toNat - (intOf iv).toNat)
  case atStart => exact ⟨0, l.length, by omega, by omega, rfl, rfl, fun k _ hk => by omega, fun k _ hk => by omega, Below.refl _ _⟩
  case round =>
    obtain ⟨i, j, hij, hj, rfl, rfl, H1, H2, HB⟩ := hrel
    by_cases hlt : i < j
    · obtain ⟨m, hm⟩ : ∃ m, (i + j) / 2 = m := ⟨_, rfl⟩
      have hm1 : i ≤ m := by omega
      have hm2 : m < j := by omega
      have hml : m < l.length := by omega
      have C1 := hid (behind1_any S P L s p q c l m hml wr (HL.out.on HB.out) ((HB.out.cell hsS).trans HC.out.1) ((HB.out.cell hsP).trans HC.out.2.1) ((HB.out.cell hsL).trans HC.out.2.2))
      have a1 : IntKind.u64.wrap ((i : Int) + (j : Int)) = (i : Int) + (j : Int) := by rw [IntKind.wrap_u64]; omega
      have a2 : ((i : Int) + (j : Int)) / 2 = (m : Int) := by omega
      have a3 : IntKind.i64.wrap (m : Int) = (m : Int) := by rw [IntKind.wrap_i64]; omega
      have HM := hid hm
      clear hm
      obtain ⟨bv, hbv⟩ : ∃ b, btt s p (l[m]).2.pr = b := ⟨_, rfl⟩
      rw [hbv] at C1
      have HBV := hid hbv
      clear hbv
      cases bv with
      | true =>
        go_wp2_with (go_at_call 62; with_reducible refine (C1.out).mono ?_; rintro e w1 ⟨rfl, n, rfl⟩)
        go_roundw
        case rel => exact ⟨i, m, hm1, by omega, rfl, rfl, H1.out, fun k hk hmk => HO.out.up p hml hk hmk HBV.out, HB.out.trans ((bdrew _ _).mono HB.out.size)⟩
        case measure => simp [intOf]; omega
      | false =>
        go_wp2_with (go_at_call 62; with_reducible refine (C1.out).mono ?_; rintro e w1 ⟨rfl, n, rfl⟩)
        go_roundw
        case rel =>
          refine ⟨m + 1, j, by omega, by omega, by go_num, rfl, fun k hk hkm => ?_, H2.out, HB.out.trans ((bdrew _ _).mono HB.out.size)⟩
          cases hx : btt s p (l[k]).2.pr with
          | false => rfl
          | true =>
            have := HO.out.up p hk hml (by omega) hx
            rw [HBV.out] at this; cases this
        case measure => simp [intOf]; omega
    · have hi5 : i = j := by omega
      subst hi5
      go_wp2
      go_ret
      exact ⟨by rw [bhd_eq hj (fun k hk hki => H1.out k hk hki) (fun hk => H2.out i hk (Nat.le_refl _))]; rfl, HB.out⟩
theorem behind_any (s p : Int) (q : Option Addr) (c : Nat) (l : LO) (w : World) (h : Li w q c l) (hn : l.length ≤ 1048576) (ho : Srt s l) :
    Calls Try.prog 36 #[.slice q l.length c, .int .i64 s, .int .i64 p] w fun e w' => e = .returned (.int .i64 (bhd s p l)) ∧ Below w.heap.size w w' := by
  obtain ⟨W, hW⟩ : ∃ W, ((w.alloc (.cells #[.slice q l.length c] 96)).alloc (.cells #[.int .i64 s] 3)).alloc (.cells #[.int .i64 p] 3) = W := ⟨_, rfl⟩
  have hB : Below w.heap.size w W := by rw [← hW]; exact (((Below.refl _ w).alloc (Nat.le_refl _) _).alloc (by simp) _).alloc (by simp; try omega) _
  have r1 : W.heap[w.heap.size]? = some (.cells #[.slice q l.length c] 96 (0, 0)) := by
    rw [← hW, Below.heap_alloc _ _ _ (by simp; try omega), Below.heap_alloc _ _ _ (by simp)]; exact World.alloc_heap_new _ _
  have r2 : W.heap[w.heap.size + 1]? = some (.cells #[.int .i64 s] 3 (0, 0)) := by
    rw [← hW, Below.heap_alloc _ _ _ (by simp; try omega)]
    have := World.alloc_heap_new (w.alloc (.cells #[.slice q l.length c] 96)) (.cells #[.int .i64 s] 3)
    simpa using this
  have r3 : W.heap[w.heap.size + 1 + 1]? = some (.cells #[.int .i64 p] 3 (0, 0)) := by
    rw [← hW]
    have := World.alloc_heap_new ((w.alloc (.cells #[.slice q l.length c] 96)).alloc (.cells #[.int .i64 s] 3)) (.cells #[.int .i64 p] 3)
    simpa using this
  have C := hid (search_any (w.heap.size + 1) (w.heap.size + 1 + 1) w.heap.size s p q c l W (h.on hB) (row_lt r2) (row_lt r3) (row_lt r1) (by rw [row_cell r2]; rfl) (by rw [row_cell r3]; rfl) (by rw [row_cell r1]; rfl) hn ho)
  have HB := hid hB
  have HW := hid hW
  clear h ho hB r1 r2 r3 hW
  go_enter Try.func36, Try.ntmps36
  go_wp2_with (go_at_call 61; rw [HW.out]; with_reducible refine (C.out).mono ?_; rintro e w1 ⟨rfl, hb⟩)
  go_ret
  exact ⟨rfl, HB.out.trans (hb.mono HB.out.size)⟩
end Go.Proofs.Ytojmcfkbekodpaa
