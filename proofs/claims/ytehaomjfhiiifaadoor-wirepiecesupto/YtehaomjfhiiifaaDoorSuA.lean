/-
  WireSums: the walk.
-/
import Derived.Test.YtehaomjfhiiifaaDoorHanA
namespace Go.Proofs.YtehaomjfhiiifaaDoor
open Go.RowKit Go.Deep Crc
set_option linter.unusedVariables false

theorem Sx.form {w : World} {v : Value} {xs : List Nat} (h : Sx w v xs) : ∃ p c, v = .slice p xs.length c := by
  rcases h with ⟨rfl, rfl⟩ | ⟨rfl, ad, cap, rfl⟩ | ⟨b, o, cap, rfl, _⟩
  · exact ⟨_, _, rfl⟩
  · exact ⟨_, _, rfl⟩
  · exact ⟨_, _, rfl⟩
theorem Mine.bs {w0 w : World} {g cap n : Nat} {ys : List Nat} (h : Mine w0 w g cap n ys) : Bs w g 0 ys := by
  intro i hi
  have := h.cells (g := g) rfl i (.int .u8 ((ys[i] : Nat) : Int)) (bv_get _ i hi)
  rw [Addr.add_mid] at this
  exact this
theorem Mine.room {w0 w : World} {g cap n : Nat} {ys : List Nat} (h : Mine w0 w g cap n ys) : n ≤ cap ∧ w0.heap.size ≤ g ∧ g < w.heap.size := by
  rcases h.2 with ⟨h, _⟩ | ⟨g', cap', cur, h, hbg, hg, hnc, _⟩
  · simp at h
  · simp only [Value.slice.injEq, Option.some.injEq, Addr.mk.injEq, and_true, true_and] at h
    obtain ⟨rfl, rfl⟩ := h
    exact ⟨hnc, hbg, (Array.getElem?_eq_some_iff.1 hg).1⟩
/-- what stood ahead of the marks. -/
theorem bs_front {w : World} {g : Nat} {xs ys : List Nat} (h : Bs w g 0 (xs ++ ys)) : Bs w g 0 xs := by
  have := bs_take h xs.length
  rw [List.take_left' rfl] at this
  exact this
theorem Mine.to {w0 w w' : World} {g cap n : Nat} {ys : List Nat} (h : Mine w0 w g cap n ys) (hb : Below w.heap.size w w') : Mine w0 w' g cap n ys := by
  refine ⟨h.1, ?_⟩
  rcases h.2 with h2 | ⟨g', cap', cur, h2, hbg, hg, rest⟩
  · exact Or.inl h2
  · exact Or.inr ⟨g', cap', cur, h2, hbg, (hb.block g' (Array.getElem?_eq_some_iff.1 hg).1).trans hg, rest⟩

set_option maxHeartbeats 1000000 in
set_option maxRecDepth 100000 in
theorem sums_walk (v : Value) (xs : List Nat) (w : World) (hn : xs.length ≤ 140737488351232) (hx : Oct xs) (hS : Sx w v xs) (hL : Laid w) :
    Calls Tryd.prog 3 #[v] w fun e w' => e = .returned (.bool true) ∧ Below w.heap.size w w' := by
  obtain ⟨p, c, rfl⟩ := hS.form
  have HS := hid hS
  have HL := hid hL
  have HX := hid hx
  clear hS hL hx
  go_enter Tryd.func3, Tryd.ntmps3
  go_wp2_with fail
  refine (hand_any _ xs w hn HS.out).mono ?_
  rintro e w1 ⟨g, cap, rfl, hM, hb⟩
  have HM := hid hM
  have HB := hid hb
  have n1 : (xs.length : Int) ≤ (cap : Int) := by have := hM.room.1; omega
  have n2 : (0 : Int) ≤ (xs.length : Int) := by omega
  clear hM hb
  go_wp2_with fail
  refine (wsum_some xs g 0 cap w1 (by omega) HX.out (bs_front HM.out.bs) (laid_to HL.out HB.out)).mono ?_
  rintro e wq ⟨rfl, hq⟩
  rw [hq]
  clear hq
  go_wp2_with fail
  refine (rsum_any _ xs w1 (by omega) HX.out (HS.out.to HB.out).sl).mono ?_
  rintro e wq ⟨rfl, hq⟩
  rw [hq]
  clear hq
  go_wp2_with fail
  refine (left_any g cap _ xs w w1 hn HM.out (HS.out.to HB.out)).mono ?_
  rintro e w2 ⟨rfl, hb⟩
  have HB2 := hid (HB.out.trans hb)
  clear hb
  go_wp2
  go_ret
  exact ⟨rfl, HB2.out⟩
end Go.Proofs.YtehaomjfhiiifaaDoor
