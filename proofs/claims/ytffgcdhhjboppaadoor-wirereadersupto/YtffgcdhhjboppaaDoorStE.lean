/-
  Tracks: the step Feed.
-/
import Derived.Test.YtffgcdhhjboppaaDoorStD
import Derived.Deep.RegionLaw
namespace Go.Proofs.YtffgcdhhjboppaaDoor
open Go.RowKit Go.Deep Crc
set_option linter.unusedVariables false
set_option linter.unusedSimpArgs false

set_option maxHeartbeats 4000000 in
set_option maxRecDepth 100000 in
theorem step_feed (base : Nat) (w : World) (T R : Nat) (ys xs : List Nat) (hv cv : Value) (ot : Bool) (p : Option Addr) (c : Nat) (h : Tr base w T R ys hv cv) (hx : Oct xs) (hn : ys.length + xs.length ≤ 140737488351232)
    (hS : ∀ w', Below base w w' → Sx w' (.slice p xs.length c) xs) :
    Calls Tryd.prog 20 #[.pointer (some ⟨T, 0, none⟩), .agg #[.int .i64 0, .bool ot, .slice p xs.length c]] w fun e w' => e = .returned (.bool true) ∧ Goes base w w' T R hv cv (ys ++ xs) := by
  have HT := hid h
  have HX := hid hx
  have HS := hid hS
  obtain ⟨q, c', rfl⟩ := h.len
  clear h hx hS
  obtain ⟨W, hW⟩ : ∃ W, w.alloc (.cells #[.int .i64 0, .bool ot, .slice p xs.length c] 53) = W := ⟨_, rfl⟩
  have HB := hid (show Below w.heap.size w W by rw [← hW]; exact bal (Below.refl _ _) _)
  have hlW : w.heap.size < W.heap.size := by rw [← hW]; simp
  have HBb := hid (show Below base w W from HB.out.mono HT.out.lt.2.2.1)
  have HTW := hid (HT.out.to HB.out)
  have hbx : W.heap[w.heap.size]? = some (.cells #[.int .i64 0, .bool ot, .slice p xs.length c] 53 (0, 0)) := by rw [← hW]; exact heap_alloc_new w _
  have HBX := hid hbx
  have oc0 : W.cell? ⟨w.heap.size, 0, none⟩ = some (.int .i64 0) := by rw [cell_of_row W _ _ _ _ _ hbx]; rfl
  have oc2 : W.cell? ⟨w.heap.size, 2, none⟩ = some (.slice p xs.length c) := by rw [cell_of_row W _ _ _ _ _ hbx]; rfl
  clear hbx
  go_enter Tryd.func20, Tryd.ntmps20
  go_wp2_with fail
  refine (hand_any _ xs W (by omega) (HS.out W HBb.out)).mono ?_
  rintro e w1 ⟨g, cap, rfl, hM, hb⟩
  have n1 : (xs.length : Int) ≤ (cap : Int) := by have := hM.room.1; omega
  have n2 : (0 : Int) ≤ (xs.length : Int) := by omega
  have HM := hid hM
  have HB1 := hid hb
  have hgW : W.heap.size ≤ g ∧ g < w1.heap.size := ⟨(owns_room hM).1, (owns_room hM).2.1⟩
  have HT1 := hid (HTW.out.to hb)
  have HB1b := hid (show Below base w w1 from HBb.out.trans (hb.mono (by have := HT.out.lt.2.2.1; omega)))
  have hl1 : W.heap.size ≤ w1.heap.size := hb.size
  have hbx1 : w1.heap[w.heap.size]? = some (.cells #[.int .i64 0, .bool ot, .slice p xs.length c] 53 (0, 0)) := (blk_to hb hlW).trans HBX.out
  have HBX1 := hid hbx1
  clear hM hb oc0 oc2 hbx1 hW
  have hRw : R < w.heap.size := HT.out.lt.2.1
  have hTw : T < w.heap.size := HT.out.lt.1
  have after : ∀ w' : World, (∀ b, b < w1.drew.heap.size → ¬ b = R → ¬ hv.ownBlock = some b → w'.heap[b]? = w1.drew.heap[b]?) → (w'.cell? ⟨T, 0, none⟩ = some (.pointer (some ⟨R, 0, none⟩)) ∧ w'.cell? ⟨w.heap.size, 2, none⟩ = some (.slice p xs.length c)) := by
    intro w' ho
    have h1 : w'.heap[T]? = some (.cells #[.pointer (some ⟨R, 0, none⟩), .slice q ys.length c'] 51 (0, 0)) := (ho T (by show T < w1.heap.size; omega) HT.out.ne (fun e => (HT.out.lt.2.2.2 T e).2.1 rfl)).trans HT1.out.2.1
    have h2 : w'.heap[w.heap.size]? = some (.cells #[.int .i64 0, .bool ot, .slice p xs.length c] 53 (0, 0)) := (ho w.heap.size (by show _ < w1.heap.size; omega) (by omega) (fun e => by have := (HT.out.lt.2.2.2 _ e).1; omega)).trans HBX1.out
    exact ⟨by rw [cell_of_row w' _ _ _ _ _ h1]; rfl, by rw [cell_of_row w' _ _ _ _ _ h2]; rfl⟩
  have AFTER := hid after
  clear after
  go_wp2
  go_region_held3 (fun w' => (w'.cell? ⟨T, 0, none⟩ = some (.pointer (some ⟨R, 0, none⟩)) ∧ w'.cell? ⟨w.heap.size, 2, none⟩ = some (.slice p xs.length c)))
    (first | exact HC.out | exact AFTER.out _ (fun _ _ _ _ => rfl))
    (first
    | (go_at_call 29; refine (rfeedG base w1.drew R ys xs ⟨g, 0, none⟩ cap hv (HT1.out.to (Below.drew (Below.refl _ _))).2.2.1 HX.out (bs_add (bs_to (bs_front HM.out.bs) (Below.drew (Below.refl _ _)))) (by omega)).mono ?_; rintro e w2 ⟨rfl, ⟨hv', hR', hown⟩, hbel, hsz, hoth⟩; have HC := hid (AFTER.out w2 hoth); have HF := hid (And.intro hR' (And.intro hown (And.intro hbel (And.intro hsz hoth)))); clear hR' hown hbel hsz hoth))
  obtain ⟨hR', hown, hbel, hsz, hoth⟩ := HF.out
  have HOT := hid (show ∀ b, b < w1.heap.size → ¬ b = R → ¬ hv.ownBlock = some b → w2.heap[b]? = w1.heap[b]? from hoth)
  have HR2 := hid hR'
  have HOW := hid (show hv'.ownBlock = hv.ownBlock ∨ ∀ g', hv'.ownBlock = some g' → w1.heap.size ≤ g' from hown)
  have hl2 : w1.heap.size ≤ w2.heap.size := hsz
  have hbW : base ≤ w.heap.size := HT.out.lt.2.2.1
  have HB2b := hid (show Below base w w2 from HB1b.out.trans ((Below.drew (Below.refl base w1)).trans hbel))
  have HO2 := hid (show ∀ b, b < w.heap.size → ¬ b = R → ¬ hv.ownBlock = some b → w2.heap[b]? = w.heap[b]? from fun b hb h1 h2 => (HOT.out b (by omega) h1 h2).trans ((blk_to HB1.out (by omega)).trans (blk_to HB.out hb)))
  have hgn : ¬ hv.ownBlock = some g := fun e => by have := (HT.out.lt.2.2.2 g e).1; omega
  have HM2 := hid (show Mine W w2 g cap (xs.length + 5) (xs ++ [1, 2, 3, 4, 5]) from owns_kept HM.out (HOT.out g hgW.2 (by omega) hgn))
  have HS2 := hid (show Sx w2 (.slice q ys.length c') ys from HT.out.2.2.2.1.kept (fun g' hg' => HO2.out g' (HT.out.2.2.2.2.1 g' hg').1 (HT.out.2.2.2.2.1 g' hg').2.2.2.1 (HT.out.2.2.2.2.1 g' hg').2.2.2.2))
  have HBX2 := hid (show w2.heap[w.heap.size]? = some (.cells #[.int .i64 0, .bool ot, .slice p xs.length c] 53 (0, 0)) from (HOT.out _ (by omega) (by omega) (fun e => by have := (HT.out.lt.2.2.2 _ e).1; omega)).trans HBX1.out)
  have HTR := hid (HT.out.row HO2.out)
  have fin : ∀ (g4 c4 : Nat) (w4 : World), w4.ownsRow w2.heap.size 5 1 (.slice (some ⟨g4, 0, none⟩) (ys.length + xs.length) c4) (ys.length + xs.length) (bv (ys ++ xs)) → Below w2.heap.size w2 w4 →
      Mine W (w4.setCell ⟨T, 1, none⟩ (.slice (some ⟨g4, 0, none⟩) (ys.length + xs.length) c4)) g cap (xs.length + 5) (xs ++ [1, 2, 3, 4, 5]) ∧ Sx (w4.setCell ⟨T, 1, none⟩ (.slice (some ⟨g4, 0, none⟩) (ys.length + xs.length) c4)) (.slice p xs.length c) xs ∧
      ∀ w6, Below W.heap.size (w4.setCell ⟨T, 1, none⟩ (.slice (some ⟨g4, 0, none⟩) (ys.length + xs.length) c4)) w6 → (w4.setCell ⟨T, 1, none⟩ (.slice (some ⟨g4, 0, none⟩) (ys.length + xs.length) c4)).heap.size ≤ w6.heap.size →
        (∀ b, ¬ b = g → w6.heap[b]? = (w4.setCell ⟨T, 1, none⟩ (.slice (some ⟨g4, 0, none⟩) (ys.length + xs.length) c4)).heap[b]?) → Goes base w w6 T R hv (.slice q ys.length c') (ys ++ xs) := by
    intro g4 c4 w4 ho hb
    have hs4 := hb.size
    obtain ⟨hg4, hg4l, hc4⟩ := owns_room ho
    have hO4 : ∀ b, b < w.heap.size → ¬ b = R → ¬ hv.ownBlock = some b → w4.heap[b]? = w.heap[b]? := fun b hbb h1 h2 => (blk_to hb (by omega)).trans (HO2.out b hbb h1 h2)
    have hb5 : Below base w (w4.setCell ⟨T, 1, none⟩ (.slice (some ⟨g4, 0, none⟩) (ys.length + xs.length) c4)) := (HB2b.out.trans (hb.mono (by omega))).setCell HT.out.1 _
    have hne : ∀ b, ¬ b = T → (w4.setCell ⟨T, 1, none⟩ (.slice (some ⟨g4, 0, none⟩) (ys.length + xs.length) c4)).heap[b]? = w4.heap[b]? := fun b hbt => heap_setCell_other _ _ _ _ hbt
    have hhv : ∀ b, hv'.ownBlock = some b → b < w2.heap.size ∧ ¬ b = g ∧ ¬ b = T := by
      intro b hbv
      obtain ⟨_, cur, hcu⟩ := HR2.out.2.2.2.own b hbv
      refine ⟨(Array.getElem?_eq_some_iff.1 hcu).1, ?_⟩
      rcases HOW.out with e | e
      · rw [e] at hbv
        have := HT.out.lt.2.2.2 b hbv
        exact ⟨by omega, this.2.1⟩
      · have := e b hbv
        exact ⟨by omega, by omega⟩
    refine ⟨owns_kept HM2.out ((hne g (by omega)).trans (blk_to hb (by omega))), HS.out _ hb5, ?_⟩
    intro w6 hb6 hs6 ho6
    have hsz4 : w4.heap.size ≤ w6.heap.size := by simpa using hs6
    refine mk_goes HT.out (HR2.out.to hb) (HOW.out.imp id fun e g' hg' => by have := e g' hg'; omega) hO4 (by omega) (sx_owns ho (by simp)) ?_ (Or.inr fun g' hg' => by have e4 : g4 = g' := (by simpa [Value.ownBlock] using hg'); omega) (fun p n c e => by cases e; exact hc4) ?_ ?_ hsz4 (hb5.trans (hb6.mono (by omega)))
    · intro g' hg'
      obtain rfl : g4 = g' := by simpa [Value.ownBlock] using hg'
      exact ⟨hg4l, by omega, by omega, by omega, fun e => by have := (hhv g4 e).1; omega⟩
    · rw [ho6 T (by omega), heap_setCell_same w4 T 1 _ 51 _ (HT.out.row hO4)]
      simp
    · intro b hbb
      have hbg : ¬ b = g ∧ ¬ b = T := by
        rcases hbb with rfl | h1 | h1 | h1
        · exact ⟨by omega, fun e => HT.out.ne e.symm⟩
        · exact (hhv b h1).2
        · obtain rfl : g4 = b := by simpa [Value.ownBlock] using h1
          exact ⟨by omega, by omega⟩
        · exact ⟨by omega, h1.2⟩
      exact (ho6 b hbg.1).trans (hne b hbg.2)
  have FIN := hid fin
  clear fin
  have tf : ∀ w' : World, Below w2.heap.size w2 w' → w'.cell? ⟨T, 1, none⟩ = some (.slice q ys.length c') ∧ w'.frozen? ⟨T, 1, none⟩ = false := by
    intro w' hb
    have h1 := (blk_to hb (by omega)).trans HTR.out
    exact ⟨by rw [cell_of_row w' _ _ _ _ _ h1]; rfl, frozen_of_row w' _ _ _ _ h1⟩
  have TF := hid tf
  have keep : ∀ w' : World, Below w2.heap.size w2 w' → w'.cell? ⟨w.heap.size, 2, none⟩ = some (.slice p xs.length c) ∧ ∀ v, (w'.setCell ⟨T, 1, none⟩ v).cell? ⟨w.heap.size, 2, none⟩ = some (.slice p xs.length c) := by
    intro w' hb
    have h2 := (blk_to hb (by omega)).trans HBX2.out
    have h3 : w'.cell? ⟨w.heap.size, 2, none⟩ = some (.slice p xs.length c) := by rw [cell_of_row w' _ _ _ _ _ h2]; rfl
    refine ⟨h3, fun v => ?_⟩
    rw [World.cell?_setCell_other _ _ _ _ (fun e2 => by have := congrArg Addr.block e2; simp at this; omega)]
    exact h3
  have KEEP := hid keep
  have t1 := (tf w2 (Below.refl _ _)).1
  have bx1 := (keep w2 (Below.refl _ _)).1
  have hba : Below w2.heap.size w2 (w2.alloc (.cells #[] 5)) := (Below.refl w2.heap.size w2).alloc (Nat.le_refl _) _
  have t1a := (tf _ hba).1
  have bx1a := (keep _ hba).1
  have HBA := hid (show Below w2.heap.size w2 (w2.alloc (.cells #[] 5)).drew from Below.drew hba)
  have tn1 : ¬ T = w2.heap.size := by omega
  have tn2 : ¬ w2.heap.size = T := by omega
  have OWN := hid (show (w2.alloc (.cells #[] 5)).drew.ownsRow w2.heap.size 5 1 (.slice (some ⟨w2.heap.size, 0, none⟩) 0 0) 0 (bv []) from World.ownsRow_made (base := w2.heap.size) (e := 5) (size := 1) w2 #[] 0 (Nat.le_refl _) (Nat.zero_le _) rfl)
  have HSA := hid (HS2.out.to HBA.out)
  clear hR' hown hbel hsz hoth HF HC AFTER tf keep hba
  go_wp2
  go_region_law
    (first
    | (refine step_append_sx (by rfl) (.tmp 31) (.tmp 35) (by rfl) w2.heap.size w2.heap.size 0 0 [] (by rfl) OWN.out _ ys (by rfl) HSA.out (by omega) (by simp) ys.length ys (by simp) (by simp) ?_; intro g3 c3 w3 hown3 hb3; have HO3 := hid hown3; have HB3 := hid (show Below w2.heap.size w2 w3 from HBA.out.trans hb3); have bx3 := (KEEP.out _ HB3.out).1; clear hown3 hb3)
    | (refine step_append_sx (by rfl) (.tmp 36) (.tmp 38) (by rfl) w2.heap.size g3 ys.length c3 ys (by rfl) HO3.out _ xs (by rfl) (HS.out w3 (HB2b.out.trans (HB3.out.mono (by omega)))) (by omega) HB3.out.size (ys.length + xs.length) (ys ++ xs) rfl rfl ?_; intro g4 c4 w4 hown4 hb4; have HO4 := hid hown4; have HB4 := hid (show Below w2.heap.size w2 w4 from HB3.out.trans hb4); obtain ⟨t4, f4⟩ := TF.out w4 HB4.out; clear hown4 hb4))
  all_goals
    have bx5 := (KEEP.out _ HB4.out).2 (.slice (some ⟨g4, 0, none⟩) (ys.length + xs.length) c4)
    have HFIN := hid (FIN.out g4 c4 w4 HO4.out HB4.out)
    clear t1 bx1 t1a bx1a t4 f4 bx3
    go_wp2_with fail
    refine (left_only g cap _ xs W _ (by omega) HFIN.out.1 HFIN.out.2.1).mono ?_
    rintro e w6 ⟨rfl, hb6, hs6, ho6⟩
    have HGO := hid (HFIN.out.2.2 w6 hb6 hs6 ho6)
    clear hb6 hs6 ho6 HFIN bx5
    go_wp2
    go_ret
    exact ⟨rfl, HGO.out⟩
end Go.Proofs.YtffgcdhhjboppaaDoor
