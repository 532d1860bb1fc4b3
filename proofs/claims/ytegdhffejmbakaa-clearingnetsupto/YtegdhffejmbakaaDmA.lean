/-
  DmA
-/
import Derived.Test.YtegdhffejmbakaaGb
import Derived.Test.YtegdhffejmbakaaDmP
import Derived.WalkKit
import Derived.Deep.DrawnRows
import Derived.Deep.Cut
import Derived.BigQuiet
import Derived.WalkLawsBesides
import Derived.RowKit3
import Derived.Deep.OwnRows
import Derived.Deep.QuietTactic
import Derived.Deep.RegionLaw
import Derived.Below
import Derived.Laws.NewBlocks
import Derived.Shelf.Strconv.Itoa0
import Derived.Lib.SmallJoins
import Derived.RangeFuncRecord
import Derived.Deep.RegionHeld3
import Derived.Laws.Rows
import Derived.Laws.Tables
namespace Go.Proofs.Ytegdhffejmbakaa.Dm
open Go.RowKit Go.Deep BigM MonM TexM ParM
set_option linter.unusedVariables false
set_option linter.unusedSimpArgs false
set_option maxHeartbeats 8000000
set_option maxRecDepth 100000
attribute [local go_sem ↓] Go.wp_at_zero Go.wp_at_succ
theorem ball (w : World) (o : Obj) : Below w.heap.size w (w.alloc o) := (Below.refl _ _).alloc (Nat.le_refl _) _
theorem btr {a b c : World} (h : Below a.heap.size a b) (k : Below b.heap.size b c) : Below a.heap.size a c := h.trans (k.mono h.size)
theorem row_cell {w : World} {g : Nat} {t : TypeId} {cs : Array Value} (h : w.heap[g]? = some (.cells cs t (0, 0))) (j : Nat) : w.cell? ⟨g, j, none⟩ = cs[j]? := cell_of_row w g j cs t (0, 0) h
theorem row_frz {w : World} {g : Nat} {t : TypeId} {cs : Array Value} (h : w.heap[g]? = some (.cells cs t (0, 0))) (j : Nat) : w.frozen? ⟨g, j, none⟩ = false := frozen_of_row w g j cs t h
theorem row_lt {w : World} {g : Nat} {o : Obj} (h : w.heap[g]? = some o) : g < w.heap.size := (Array.getElem?_eq_some_iff.1 h).1
theorem row_on {w w' : World} {g : Nat} {o : Obj} (h : w.heap[g]? = some o) (hb : Below w.heap.size w w') : w'.heap[g]? = some o := by
  rw [hb.block g (row_lt h)]; exact h
theorem setRow_below {w W : World} {g : Nat} {cs : Array Value} (h : Below w.heap.size w W) (hg : w.heap.size ≤ g) : Below w.heap.size w (W.setRow g cs) :=
  h.trans ⟨rfl, rfl, rfl, by simp [World.setRow], fun b hb => setRow_other W g b cs (by omega)⟩
theorem bdrewN (w : World) (n : Nat) : Below w.heap.size w (w.drewN n) := ⟨rfl, rfl, rfl, Nat.le_refl _, fun _ _ => rfl⟩
theorem res_ct {P : Program} {fn : Func} {p q : Tmp} {ty : TypeId} (h : fn.results = #[.cell p ty, .tmp q]) (tmps : Array Value) (w : World) (g : Nat) (t : TypeId) (cs : Array Value) (fr : Nat × Nat) (d : TypeDesc) (v : Value)
    (hp : tmps.getD p undef = .pointer (some ⟨g, 0, none⟩)) (hq : tmps.getD q undef = v) (hg : w.heap[g]? = some (.cells cs t fr))
    (hu : P.underlying ty = some d) (hd : (match d with | .struct _ | .array _ _ => true | _ => false) = true) (hi : (P.info? ty).map (·.size) = some cs.size) :
    (results fn tmps).run P w = .ok (.tuple #[.agg cs, v]) w := by
  have hp' : tmps[p]?.getD undef = .pointer (some ⟨g, 0, none⟩) := by simpa using hp
  have hq' : tmps[q]?.getD undef = v := by simpa using hq
  simp [results, h, hp', hq', asAddr, run_loadVar_row w g t ty cs fr d hg hu hd hi]
theorem info32 : (Try.prog.info? 41).map (·.size) = some 2 := by kernel_rfl
theorem am_info (b v : Value) : (Try.prog.info? 41).map (·.size) = some (#[b, v] : Array Value).size := info32
theorem am_size (b v b' v' : Value) : (#[b, v] : Array Value).size = (#[b', v'] : Array Value).size := rfl
theorem am_all (b : Bool) (p : Option Addr) (n c : Nat) : (#[.bool b, .slice p n c] : Array Value).all (·.oneCell') = true := by simp [Value.oneCell']
theorem pw3 : (340282366920938463463374607431768211456 : Int) * 4294967296 ≤ pw 900 := by
  have : pw 5 ≤ pw 900 := pw_le 5 900 (by decide)
  have e : pw 5 = 1461501637330902918203684832716283019655932542976 := by decide
  omega
theorem pw4 : (340282366920938463463374607431768211456 : Int) * 4294967296 ≤ pw 1000 := Int.le_trans pw3 (pw_le 900 1000 (by decide))
theorem bn_most (w : World) : Bn (w.alloc (.cells #[.int .u32 4294967295, .int .u32 4294967295, .int .u32 4294967295, .int .u32 2147483647] 23)) (.slice (some ⟨w.heap.size, 0, none⟩) 4 4) 170141183460469231731687303715884105727 := by
  refine ⟨[4294967295, 4294967295, 4294967295, 2147483647], .inr ⟨w.heap.size, 0, 4, rfl, by simp, by simp [maxLen], alloc_cells _ _, ?_⟩, ?_, ?_, by decide⟩
  · intro j hj
    have hj' : j < 4 := hj
    have h := row_cell (World.alloc_heap_new w (.cells #[.int .u32 4294967295, .int .u32 4294967295, .int .u32 4294967295, .int .u32 2147483647] 23)) (0 + j)
    rw [h]
    rcases (show j = 0 ∨ j = 1 ∨ j = 2 ∨ j = 3 by omega) with rfl | rfl | rfl | rfl <;> rfl
  · intro x hx
    simp at hx
    omega
  · intro _
    decide
theorem most_any (w : World) : Calls Try.prog 55 #[] w fun e w' => (∃ u, e = .returned u ∧ Bn w' u 170141183460469231731687303715884105727) ∧ Below w.heap.size w w' := by
  have B := hid (bn_most w)
  have L := hid (ball w (.cells #[.int .u32 4294967295, .int .u32 4294967295, .int .u32 4294967295, .int .u32 2147483647] 23))
  go_enter Try.func55, Try.ntmps55
  go_wp2
  go_ret
  exact ⟨⟨_, rfl, B.out⟩, L.out⟩
/-- an amount of the document's. -/
def Am (w : World) (v : Value) (m : Int) : Prop := ∃ u, v = .agg #[.bool (decide (m < 0)), u] ∧ Bn w u (absI m)
theorem Am.on {w w' : World} {v : Value} {m : Int} (h : Am w v m) (hb : Below w.heap.size w w') : Am w' v m := by
  obtain ⟨u, e, b⟩ := h
  exact ⟨u, e, b.to hb⟩
/-- what amount says. -/
def AmP (below : Bool) (x : Int) (e : Ending) (w' : World) : Prop :=
  (x ≤ 170141183460469231731687303715884105727 ∧ ∃ v, e = .returned (.tuple #[v, .int .i64 0]) ∧ Am w' v (if below then -x else x)) ∨
  (¬ x ≤ 170141183460469231731687303715884105727 ∧ e = .returned (.tuple #[.agg #[.bool false, .slice none 0 0], .int .i64 10]))
theorem bn_len {w : World} {a : Option Addr} {n c : Nat} {x : Int} (h : Bn w (.slice a n c) x) : (0 < n ↔ 0 < x) := by
  obtain ⟨ds, h1, h2, h3, rfl⟩ := h
  obtain ⟨a', c', e, _, _⟩ := h1.shape
  injection e with _ e _
  rw [e]
  exact len_pos ds h2 h3
theorem bn_form {w : World} {u : Value} {x : Int} (h : Bn w u x) : ∃ a n c, u = .slice a n c ∧ n ≤ maxLen := by
  obtain ⟨ds, h1, _⟩ := h
  obtain ⟨a, c, e, hl, _⟩ := h1.shape
  exact ⟨a, ds.length, c, e, hl⟩
theorem amount_any (below : Bool) (u : Value) (x : Int) (w : World) (hu : Bn w u x) (hx : x < pw 1000) :
    Calls Try.prog 31 #[.bool below, u] w fun e w' => AmP below x e w' ∧ Below w.heap.size w w' := by
  obtain ⟨a, n, c, rfl, hm⟩ := bn_form hu
  obtain ⟨W1, hW1⟩ : ∃ W, w.alloc (.cells #[.bool false, .slice none 0 0] 41) = W := ⟨_, rfl⟩
  have B1 := hid (show Below w.heap.size w W1 from by rw [← hW1]; exact ball _ _)
  have R1 := hid (show W1.heap[w.heap.size]? = some (.cells #[.bool false, .slice none 0 0] 41 (0, 0)) from by rw [← hW1]; exact World.alloc_heap_new _ _)
  have CM := hid (most_any W1)
  have HU := hid hu
  have HX := hid (And.intro hx (show (170141183460469231731687303715884105727 : Int) < pw 1000 from by have := pw4; omega))
  have HL := hid (bn_len hu)
  have HM := hid hm
  have HNN := hid hu.nonneg
  obtain ⟨g, hg⟩ : ∃ g, w.heap.size = g := ⟨_, rfl⟩
  have HG := hid hg
  rw [hg] at R1
  clear hu hx hm
  by_cases hc : x ≤ 170141183460469231731687303715884105727
  · have ec : decide (0 < cmpI x 170141183460469231731687303715884105727) = false := by unfold cmpI; rw [decide_eq_false_iff_not]; split <;> (try split) <;> omega
    have HC := hid hc
    clear hc
    have FIN := hid (show ∀ (W : World) (b : Bool), Below w.heap.size w W → b = (below && decide (0 < n)) → Am (W.setRow g #[.bool b, .slice a n c]) (.agg #[.bool b, .slice a n c]) (if below then -x else x) from fun W b hW hb => by
      have h0 := HNN.out
      have h1 := HL.out
      refine ⟨.slice a n c, ?_, ?_⟩
      · have : b = decide ((if below = true then -x else x) < 0) := by
          rw [hb]
          cases below
          · simp; omega
          · simp; omega
        rw [this]
      · have : absI (if below = true then -x else x) = x := by unfold absI; cases below <;> simp <;> omega
        rw [this]
        exact HU.out.to (setRow_below hW (Nat.le_of_eq HG.out)))
    cases below
    · have FF := hid (fun W hW => FIN.out W false hW rfl)
      clear FIN HL HNN
      go_enter Try.func31, Try.ntmps31
      go_wp2_with (first | (go_at_call 55; with_reducible refine CM.out.mono ?_; rintro e w1 ⟨⟨um, rfl, h1⟩, h2⟩; have H1 := hid h1; have H2 := hid h2; clear h1 h2) | (go_at_call 47; with_reducible refine (compare_any _ _ _ _ _ ((HU.out.to B1.out).to H2.out) H1.out HX.out.1 HX.out.2).mono ?_; rintro e w2 ⟨rfl, k, h2⟩; have B2 := hid (show Below w1.heap.size w1 w2 from by rw [h2]; exact bdrewN _ _); have R2 := hid (row_on (row_on R1.out H2.out) B2.out); clear h2) | (refine wpList_store_row (by rfl) 41 (.tmp 4) (.tmp 18) (by rfl) g #[.bool false, .slice a n c] (by rfl) (by rfl) 41 _ R2.out (am_info _ _) (am_size _ _ _ _) (am_all _ _ _ _) ?_))
      refine bodyPost_ret (res_ct Try.results31 _ _ g 41 #[.bool false, .slice a n c] (0, 0) _ (.int .i64 0) (by rfl) (by rfl) (setRow_heap _ _ _ _ 41 (0, 0) R2.out) Try.underlying41 rfl info32) rfl ⟨?_, setRow_below (btr B1.out (btr H2.out B2.out)) (Nat.le_of_eq HG.out)⟩
      exact .inl ⟨HC.out, _, rfl, FF.out _ (btr B1.out (btr H2.out B2.out))⟩
    · by_cases h0 : 0 < n
      · have FF := hid (fun W hW => FIN.out W true hW (by simp [h0]))
        have e0 : decide (0 < n) = true := decide_eq_true h0
        clear FIN HL HNN
        go_enter Try.func31, Try.ntmps31
        go_wp2_with (first | (go_at_call 55; with_reducible refine CM.out.mono ?_; rintro e w1 ⟨⟨um, rfl, h1⟩, h2⟩; have H1 := hid h1; have H2 := hid h2; clear h1 h2) | (go_at_call 47; with_reducible refine (compare_any _ _ _ _ _ ((HU.out.to B1.out).to H2.out) H1.out HX.out.1 HX.out.2).mono ?_; rintro e w2 ⟨rfl, k, h2⟩; have B2 := hid (show Below w1.heap.size w1 w2 from by rw [h2]; exact bdrewN _ _); have R2 := hid (row_on (row_on R1.out H2.out) B2.out); clear h2) | (refine wpList_store_row (by rfl) 41 (.tmp 4) (.tmp 18) (by rfl) g #[.bool true, .slice a n c] (by rfl) (by rfl) 41 _ R2.out (am_info _ _) (am_size _ _ _ _) (am_all _ _ _ _) ?_))
        refine bodyPost_ret (res_ct Try.results31 _ _ g 41 #[.bool true, .slice a n c] (0, 0) _ (.int .i64 0) (by rfl) (by rfl) (setRow_heap _ _ _ _ 41 (0, 0) R2.out) Try.underlying41 rfl info32) rfl ⟨?_, setRow_below (btr B1.out (btr H2.out B2.out)) (Nat.le_of_eq HG.out)⟩
        exact .inl ⟨HC.out, _, rfl, FF.out _ (btr B1.out (btr H2.out B2.out))⟩
      · have FF := hid (fun W hW => FIN.out W false hW (by simp [h0]))
        have e0 : decide (0 < n) = false := decide_eq_false h0
        clear FIN HL HNN
        go_enter Try.func31, Try.ntmps31
        go_wp2_with (first | (go_at_call 55; with_reducible refine CM.out.mono ?_; rintro e w1 ⟨⟨um, rfl, h1⟩, h2⟩; have H1 := hid h1; have H2 := hid h2; clear h1 h2) | (go_at_call 47; with_reducible refine (compare_any _ _ _ _ _ ((HU.out.to B1.out).to H2.out) H1.out HX.out.1 HX.out.2).mono ?_; rintro e w2 ⟨rfl, k, h2⟩; have B2 := hid (show Below w1.heap.size w1 w2 from by rw [h2]; exact bdrewN _ _); have R2 := hid (row_on (row_on R1.out H2.out) B2.out); clear h2) | (refine wpList_store_row (by rfl) 41 (.tmp 4) (.tmp 18) (by rfl) g #[.bool false, .slice a n c] (by rfl) (by rfl) 41 _ R2.out (am_info _ _) (am_size _ _ _ _) (am_all _ _ _ _) ?_))
        refine bodyPost_ret (res_ct Try.results31 _ _ g 41 #[.bool false, .slice a n c] (0, 0) _ (.int .i64 0) (by rfl) (by rfl) (setRow_heap _ _ _ _ 41 (0, 0) R2.out) Try.underlying41 rfl info32) rfl ⟨?_, setRow_below (btr B1.out (btr H2.out B2.out)) (Nat.le_of_eq HG.out)⟩
        exact .inl ⟨HC.out, _, rfl, FF.out _ (btr B1.out (btr H2.out B2.out))⟩
  · have ec : decide (0 < cmpI x 170141183460469231731687303715884105727) = true := by unfold cmpI; rw [decide_eq_true_iff]; split <;> (try split) <;> omega
    have HC := hid hc
    clear hc HL HNN
    go_enter Try.func31, Try.ntmps31
    go_wp2_with (first | (go_at_call 55; with_reducible refine CM.out.mono ?_; rintro e w1 ⟨⟨um, rfl, h1⟩, h2⟩; have H1 := hid h1; have H2 := hid h2; clear h1 h2) | (go_at_call 47; with_reducible refine (compare_any _ _ _ _ _ ((HU.out.to B1.out).to H2.out) H1.out HX.out.1 HX.out.2).mono ?_; rintro e w2 ⟨rfl, k, h2⟩; have B2 := hid (show Below w1.heap.size w1 w2 from by rw [h2]; exact bdrewN _ _); have R2 := hid (row_on (row_on R1.out H2.out) B2.out); clear h2) | (refine wpList_store_row (by rfl) 41 (.tmp 4) (.tmp 10) (by rfl) g #[.bool false, .slice none 0 0] (by rfl) (by rfl) 41 _ R2.out (am_info _ _) (am_size _ _ _ _) (am_all _ _ _ _) ?_))
    refine bodyPost_ret (res_ct Try.results31 _ _ g 41 #[.bool false, .slice none 0 0] (0, 0) _ (.int .i64 10) (by rfl) (by rfl) (setRow_heap _ _ _ _ 41 (0, 0) R2.out) Try.underlying41 rfl info32) rfl ⟨?_, setRow_below (btr B1.out (btr H2.out B2.out)) (Nat.le_of_eq HG.out)⟩
    exact .inr ⟨Int.not_le.2 HC.out, rfl⟩
end Go.Proofs.Ytegdhffejmbakaa.Dm
