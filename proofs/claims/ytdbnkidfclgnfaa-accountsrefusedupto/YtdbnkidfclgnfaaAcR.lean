/-
  A deal is booked: what stands under it.
-/
import Derived.Test.YtdbnkidfclgnfaaAcQ
import Derived.Test.YtdbnkidfclgnfaaAcWb
namespace Go.Proofs.Ytdbnkidfclgnfaa.Ac
open Go.RowKit Go.Deep Go.Maps Go.Proofs.Ytdbnkidfclgnfaa.MonM
set_option linter.unusedVariables false
set_option linter.unusedSimpArgs false
set_option maxHeartbeats 8000000
set_option maxRecDepth 100000
attribute [local go_sem ↓] Go.wp_at_zero Go.wp_at_succ
theorem Ex.out {X : World} {O O' : Nat → Prop} {n L : Nat} (h : Ex X O O') (hl : ∀ b, O b → b < n) (h1 : n ≤ L) (h2 : L < X.heap.size) : ¬ O' L := fun e => by
  rcases h L e with h3 | h3
  · have := hl L h3; omega
  · omega
theorem charge_any {w : World} {G : Nat} {O : Nat → Prop} {k : Nat} {s : Ls} (h : Lg w G O k s) (hB : ∃ x, s.f x ≠ none) (m v : Int) (tk : Bool) (hm : U32 m) (hv : Amt v) (hk : k ≤ 1000000000000) :
    Calls Try.prog 24 #[.pointer (some ⟨G, 0, none⟩), .int .u32 m, mv v, .bool tk] w fun e w' => e = .returned (.tuple #[]) ∧ ∃ O', Lg w' G O' (k + 3) (ent s (m, 1) (0, 2) (fee s v tk)) ∧ Kp O w w' ∧ Ex w O O' := by
  cases tk
  · exact charge_false h hB m v hm hv hk
  · exact charge_true h hB m v hm hv hk
theorem upd_ne {K V : Type} [DecidableEq K] {f : K → Option V} {x : K} (h : f x ≠ none) (k : K) (v : V) : upd f k v x ≠ none := by
  unfold upd
  split
  · exact fun e => by cases e
  · exact h
theorem ent_B {s : Ls} (h : ∃ x, s.f x ≠ none) (a b : Int × Int) (v : Int) : ∃ x, (ent s a b v).f x ≠ none := by
  obtain ⟨x, hx⟩ := h
  refine ⟨x, ?_⟩
  unfold ent
  split
  · exact hx
  · exact upd_ne (upd_ne hx _ _) _ _
theorem ent_g (s : Ls) (a b : Int × Int) (v : Int) : (ent s a b v).g = s.g := by
  unfold ent
  split <;> rfl
/-- the ledger behind a deal. -/
def bkd (s : Ls) (d : De) (bo so : Po) : Ls :=
  let s1 := ent s (d.bu, 1) (d.se, 1) (d.pr * d.qt)
  let s2 := ent s1 (d.bu, 1) (0, 2) (fee s1 (d.pr * d.qt) (d.ta == 1))
  let s3 := ent s2 (d.se, 1) (0, 2) (fee s2 (d.pr * d.qt) (d.ta == 2))
  { s3 with g := gupd (gupd s3.g d.bu d.it bo) d.se d.it so }
theorem book_no {w : World} {G : Nat} {O : Nat → Prop} {k : Nat} {s : Ls} (h : Lg w G O k s) (d : De) (hd : DeOk d) (h0 : bkc s d ≠ 0) :
    Calls Try.prog 8 #[.pointer (some ⟨G, 0, none⟩), .agg d.row] w fun e w' => e = .returned (.int .i64 (bkc s d)) ∧ Below w.heap.size w w' := by
  obtain ⟨Wa, hWa⟩ : ∃ W, w.alloc (.cells d.row 32) = W := ⟨_, rfl⟩
  obtain ⟨R, hR⟩ : ∃ R, w.heap.size = R := ⟨_, rfl⟩
  have HBA := hid (show Below w.heap.size w Wa from by rw [← hWa]; exact ball _ _)
  have HRA := hid (show Wa.heap[R]? = some (.cells d.row 32 (0, 0)) from by rw [← hWa, ← hR]; exact World.alloc_heap_new _ _)
  have CB := hid (bookable_any (h.on HBA.out) d hd)
  obtain ⟨r, hr⟩ : ∃ r, bkc s d = r := ⟨_, rfl⟩
  rw [hr] at CB h0 ⊢
  have e0 : (r != 0) = true := by simpa using h0
  obtain ⟨it, bu, se, ta, pr, qt⟩ := d
  unfold De.row at HRA hWa CB ⊢
  simp only at HRA hWa CB ⊢
  have d0 := row_cell HRA.out 0
  have d1 := row_cell HRA.out 1
  have d2 := row_cell HRA.out 2
  have d3 := row_cell HRA.out 3
  have d4 := row_cell HRA.out 4
  have d5 := row_cell HRA.out 5
  simp only [List.getElem?_toArray, List.getElem?_cons_succ, List.getElem?_cons_zero] at d0 d1 d2 d3 d4 d5
  have HWa := hid hWa
  have HR := hid hR
  clear hWa hR h hd h0 hr
  go_enter Try.func8, Try.ntmps8
  go_upto_region 1 with fail
  rw [HWa.out, HR.out]
  clear HWa
  go_wp2_with (go_at_call 17; with_reducible refine CB.out.mono ?_; rintro e w4 ⟨rfl, hb⟩; have HB4 := hid (btr HBA.out hb); clear hb)
  go_ret
  exact ⟨rfl, HB4.out⟩
end Go.Proofs.Ytdbnkidfclgnfaa.Ac
