/-
  Tracks: Next where a frame is whole.
-/
import Derived.Test.YtlhfkflomicogaaDoorStB
namespace Go.Proofs.YtlhfkflomicogaaDoor
open Go.RowKit Go.Deep Crc
set_option linter.unusedVariables false
set_option linter.unusedSimpArgs false

set_option maxHeartbeats 2000000 in
set_option maxRecDepth 100000 in
theorem step_next_long (base : Nat) (w : World) (T R : Nat) (ys : List Nat) (hv cv : Value) (ot : Bool) (p : Option Addr) (n c : Nat) (h : Tr base w T R ys hv cv) (hl : 64 ≤ ys.length) (hm : ys.length < 9223372036854775808) (hL : Laid w) :
    Calls Tryd.prog 20 #[.pointer (some ⟨T, 0, none⟩), .agg #[.int .i64 1, .bool ot, .slice p n c]] w fun e w' => e = .returned (.bool true) ∧ Goes base w w' T R hv cv (ys.drop 64) := by
  have HT := hid h
  have HL := hid hL
  obtain ⟨b, o, c', rfl, _⟩ : ∃ b o c', cv = .slice (some ⟨b, o, none⟩) ys.length c' ∧ Bs w b o ys := by
    rcases h.2.2.2.1 with ⟨e, _⟩ | ⟨e, _⟩ | h3
    · rw [e] at hl; simp at hl
    · rw [e] at hl; simp at hl
    · exact h3
  have hcap : ys.length ≤ c' := h.2.2.2.2.2 _ _ _ rfl
  have HOC := hid h.2.2.1.2.1
  have HCV := hid (h.2.2.2.2.1 b rfl)
  clear h hL
  obtain ⟨W, hW⟩ : ∃ W, w.alloc (.cells #[.int .i64 1, .bool ot, .slice p n c] 53) = W := ⟨_, rfl⟩
  have HB := hid (show Below w.heap.size w W by rw [← hW]; exact bal (Below.refl _ _) _)
  have HTW := hid (HT.out.to HB.out)
  have hbx : W.heap[w.heap.size]? = some (.cells #[.int .i64 1, .bool ot, .slice p n c] 53 (0, 0)) := by rw [← hW]; exact heap_alloc_new w _
  have oc0 : W.cell? ⟨w.heap.size, 0, none⟩ = some (.int .i64 1) := by rw [cell_of_row W _ _ _ _ _ hbx]; rfl
  clear hbx
  have t0 : W.cell? ⟨T, 0, none⟩ = some (.pointer (some ⟨R, 0, none⟩)) := by rw [cell_of_row W _ _ _ _ _ HTW.out.2.1]; rfl
  go_enter Tryd.func20, Tryd.ntmps20
  go_wp2_with fail
  refine (rnextG base W R ys hv HTW.out.2.2.1 hl hm (laid_to HL.out HB.out)).mono ?_
  rintro e w1 ⟨⟨V, E, hU, rfl⟩, ⟨hv', hR', hown⟩, hbel, hsz, hoth⟩
  have HU := hid hU
  obtain ⟨k, a0, a1, a2, a3, a4, a5, a6, rfl⟩ := hU.form
  clear hU
  have G31 := hid (show (Tryd.prog.info? 31).map (·.size) = some (#[.int .u8 (k : Nat), .int .u64 (a0 : Nat), .int .u64 (a1 : Nat), .int .u64 (a2 : Nat), .int .u64 (a3 : Nat), .int .u64 (a4 : Nat), .int .u64 (a5 : Nat), .int .u64 (a6 : Nat)] : Array Value).size from info31)
  have G1 := hid (show (#[.int .u8 (k : Nat), .int .u64 (a0 : Nat), .int .u64 (a1 : Nat), .int .u64 (a2 : Nat), .int .u64 (a3 : Nat), .int .u64 (a4 : Nat), .int .u64 (a5 : Nat), .int .u64 (a6 : Nat)] : Array Value).all (·.oneCell') = true from all_oneCell_toArray (rowF_one k [a0, a1, a2, a3, a4, a5, a6] 7))
  have hb2 : Below w1.heap.size w1 ((w1.alloc (.cells fz 31)).setRow w1.heap.size #[.int .u8 (k : Nat), .int .u64 (a0 : Nat), .int .u64 (a1 : Nat), .int .u64 (a2 : Nat), .int .u64 (a3 : Nat), .int .u64 (a4 : Nat), .int .u64 (a5 : Nat), .int .u64 (a6 : Nat)]) := below_setRow ((Below.refl w1.heap.size w1).alloc (Nat.le_refl _) _) (Nat.le_refl _) _
  have hrow : ((w1.alloc (.cells fz 31)).setRow w1.heap.size #[.int .u8 (k : Nat), .int .u64 (a0 : Nat), .int .u64 (a1 : Nat), .int .u64 (a2 : Nat), .int .u64 (a3 : Nat), .int .u64 (a4 : Nat), .int .u64 (a5 : Nat), .int .u64 (a6 : Nat)]).heap[w1.heap.size]? = some (.cells #[.int .u8 (k : Nat), .int .u64 (a0 : Nat), .int .u64 (a1 : Nat), .int .u64 (a2 : Nat), .int .u64 (a3 : Nat), .int .u64 (a4 : Nat), .int .u64 (a5 : Nat), .int .u64 (a6 : Nat)] 31 (0, 0)) := setRow_heap _ _ _ _ 31 (0, 0) (heap_alloc_new _ _)
  obtain ⟨W2, hW2⟩ : ∃ W, (w1.alloc (.cells fz 31)).setRow w1.heap.size #[.int .u8 (k : Nat), .int .u64 (a0 : Nat), .int .u64 (a1 : Nat), .int .u64 (a2 : Nat), .int .u64 (a3 : Nat), .int .u64 (a4 : Nat), .int .u64 (a5 : Nat), .int .u64 (a6 : Nat)] = W := ⟨_, rfl⟩
  rw [hW2] at hb2 hrow
  have hWZ : (w1.alloc (.cells #[.int .u8 0, .int .u64 0, .int .u64 0, .int .u64 0, .int .u64 0, .int .u64 0, .int .u64 0, .int .u64 0] 31)).setRow w1.heap.size #[.int .u8 (k : Nat), .int .u64 (a0 : Nat), .int .u64 (a1 : Nat), .int .u64 (a2 : Nat), .int .u64 (a3 : Nat), .int .u64 (a4 : Nat), .int .u64 (a5 : Nat), .int .u64 (a6 : Nat)] = W2 := hW2
  have hl1 : w.heap.size ≤ w1.heap.size := Nat.le_trans HB.out.size hsz
  have hl2 : w1.heap.size ≤ W2.heap.size := hb2.size
  have HR2 := hid (hR'.to hb2)
  have HO2 := hid (show ∀ x, x < w.heap.size → ¬ x = R → ¬ hv.ownBlock = some x → W2.heap[x]? = w.heap[x]? from fun x hx hxR _ => (blk_to hb2 (Nat.lt_of_lt_of_le hx hl1)).trans ((hoth x (Nat.lt_of_lt_of_le hx HB.out.size) hxR).trans (blk_to HB.out hx)))
  have HBE := hid (show Below base w W2 from ((HB.out.mono HT.out.lt.2.2.1).trans hbel).trans (hb2.mono (Nat.le_trans HT.out.lt.2.2.1 hl1)))
  have HOW := hid hown
  have HROW := hid hrow
  have HS2 := hid (show Bs W2 b o ys from by
    rcases (HT.out.2.2.2.1.kept (w' := W2) (fun g hg => HO2.out g (HT.out.2.2.2.2.1 g hg).1 (HT.out.2.2.2.2.1 g hg).2.2.2.1 (HT.out.2.2.2.2.1 g hg).2.2.2.2)) with ⟨e, _⟩ | ⟨e, _⟩ | ⟨b2, o2, c2, e, h3⟩
    · rw [e] at hl; simp at hl
    · rw [e] at hl; simp at hl
    · simp only [Value.slice.injEq, Option.some.injEq, Addr.mk.injEq, and_true, true_and] at e
      obtain ⟨⟨rfl, rfl⟩, rfl⟩ := e
      exact h3)
  have t1 : W2.cell? ⟨T, 1, none⟩ = some (.slice (some ⟨b, o, none⟩) ys.length c') := by rw [cell_of_row W2 _ _ _ _ _ (HT.out.row HO2.out)]; rfl
  have n1 : ¬ (((ys.length : Nat) : Int) < 64) := by omega
  have n2 : (64 : Int) ≤ (c' : Int) := by omega
  have l64 : (ys.take 64).length = 64 := by simp; omega
  clear hW2 hb2 hrow t0 oc0 hW hR' hown hbel hsz hoth
  go_wp2_with (first | (refine wpList_store_row (by rfl) 31 (.tmp 6) (.tmp 54) (by rfl) w1.heap.size #[.int .u8 (k : Nat), .int .u64 (a0 : Nat), .int .u64 (a1 : Nat), .int .u64 (a2 : Nat), .int .u64 (a3 : Nat), .int .u64 (a4 : Nat), .int .u64 (a5 : Nat), .int .u64 (a6 : Nat)] (by rfl) (by rfl) 31 fz (heap_alloc_new _ _) G31.out rfl G1.out ?_))
  (try rw [hWZ])
  refine (runp_rel _ (ys.take 64) W2 (by omega) (fun x hx => HOC.out x (List.mem_of_mem_take hx)) (Or.inr ⟨b, o, c', by rw [l64], bs_take HS2.out 64⟩)).mono ?_
  rintro e w3 ⟨⟨V', E', rfl, hU'⟩, hb⟩
  obtain ⟨rfl, rfl⟩ := HU.out.one hU'
  have hb4 : Below w3.heap.size w3 ((w3.alloc (.cells fz 31)).setRow w3.heap.size #[.int .u8 (k : Nat), .int .u64 (a0 : Nat), .int .u64 (a1 : Nat), .int .u64 (a2 : Nat), .int .u64 (a3 : Nat), .int .u64 (a4 : Nat), .int .u64 (a5 : Nat), .int .u64 (a6 : Nat)]) := below_setRow ((Below.refl w3.heap.size w3).alloc (Nat.le_refl _) _) (Nat.le_refl _) _
  have hrow4 : ((w3.alloc (.cells fz 31)).setRow w3.heap.size #[.int .u8 (k : Nat), .int .u64 (a0 : Nat), .int .u64 (a1 : Nat), .int .u64 (a2 : Nat), .int .u64 (a3 : Nat), .int .u64 (a4 : Nat), .int .u64 (a5 : Nat), .int .u64 (a6 : Nat)]).heap[w3.heap.size]? = some (.cells #[.int .u8 (k : Nat), .int .u64 (a0 : Nat), .int .u64 (a1 : Nat), .int .u64 (a2 : Nat), .int .u64 (a3 : Nat), .int .u64 (a4 : Nat), .int .u64 (a5 : Nat), .int .u64 (a6 : Nat)] 31 (0, 0)) := setRow_heap _ _ _ _ 31 (0, 0) (heap_alloc_new _ _)
  obtain ⟨W4, hW4⟩ : ∃ W, (w3.alloc (.cells fz 31)).setRow w3.heap.size #[.int .u8 (k : Nat), .int .u64 (a0 : Nat), .int .u64 (a1 : Nat), .int .u64 (a2 : Nat), .int .u64 (a3 : Nat), .int .u64 (a4 : Nat), .int .u64 (a5 : Nat), .int .u64 (a6 : Nat)] = W := ⟨_, rfl⟩
  rw [hW4] at hb4 hrow4
  have hWZ4 : (w3.alloc (.cells #[.int .u8 0, .int .u64 0, .int .u64 0, .int .u64 0, .int .u64 0, .int .u64 0, .int .u64 0, .int .u64 0] 31)).setRow w3.heap.size #[.int .u8 (k : Nat), .int .u64 (a0 : Nat), .int .u64 (a1 : Nat), .int .u64 (a2 : Nat), .int .u64 (a3 : Nat), .int .u64 (a4 : Nat), .int .u64 (a5 : Nat), .int .u64 (a6 : Nat)] = W4 := hW4
  have hl3 : W2.heap.size ≤ w3.heap.size := hb.size
  have hlr : w1.heap.size < W2.heap.size := (Array.getElem?_eq_some_iff.1 HROW.out).1
  have hbb : Below W2.heap.size W2 W4 := btr hb hb4
  have HR4 := hid (HR2.out.to hbb)
  have HO4 := hid (show ∀ x, x < w.heap.size → ¬ x = R → ¬ hv.ownBlock = some x → W4.heap[x]? = w.heap[x]? from fun x hx hxR hxh => (blk_to hbb (by omega)).trans (HO2.out x hx hxR hxh))
  have HBE4 := hid (show Below base w W4 from HBE.out.trans (hbb.mono (by have := HT.out.lt.2.2.1; omega)))
  have HS4 := hid (bs_to HS2.out hbb)
  have hr4 : W4.heap[w1.heap.size]? = some (.cells #[.int .u8 (k : Nat), .int .u64 (a0 : Nat), .int .u64 (a1 : Nat), .int .u64 (a2 : Nat), .int .u64 (a3 : Nat), .int .u64 (a4 : Nat), .int .u64 (a5 : Nat), .int .u64 (a6 : Nat)] 31 (0, 0)) := (blk_to hbb hlr).trans HROW.out
  have trow := HT.out.row HO4.out
  have t2 : W4.cell? ⟨T, 1, none⟩ = some (.slice (some ⟨b, o, none⟩) ys.length c') := by rw [cell_of_row W4 _ _ _ _ _ trow]; rfl
  have f2 : W4.frozen? ⟨T, 1, none⟩ = false := frozen_of_row W4 _ _ _ _ trow
  have HSZ4 := hid (show w.heap.size ≤ W4.heap.size from by have := hbb.size; omega)
  have n3 : (64 : Int) ≤ (ys.length : Int) := by omega
  have n4 : (ys.length : Int) ≤ (c' : Int) := by omega
  have GOES := hid (show ∀ o' c'' : Nat, (ys.drop 64 = [] ∨ o' = o + 64) → ys.length - 64 ≤ c'' → Goes base w (W4.setCell ⟨T, 1, none⟩ (.slice (some ⟨b, o', none⟩) (ys.length - 64) c'')) T R hv (.slice (some ⟨b, o, none⟩) ys.length c') (ys.drop 64) from fun o' c'' ho hc'' =>
    put_goes HT.out HR4.out (own_or HOW.out) HO4.out HSZ4.out
      (by
        rcases ho with ho | rfl
        · exact Or.inr (Or.inl ⟨ho, _, _, by rw [show ys.length - 64 = (ys.drop 64).length by simp, ho]; rfl⟩)
        · refine Or.inr (Or.inr ⟨b, o + 64, c'', by simp, ?_⟩)
          intro i hi
          have h3 := HS4.out (64 + i) (by simp at hi; omega)
          rw [Nat.add_assoc, h3]
          simp)
      (fun g hg => by
        cases hg
        refine ⟨Nat.lt_of_lt_of_le HCV.out.1 HSZ4.out, HCV.out.2.1, HCV.out.2.2.1, HCV.out.2.2.2.1, ?_⟩
        rcases HOW.out with e | e
        · rw [e]; exact HCV.out.2.2.2.2
        · rw [e]; simp)
      (Or.inl rfl) (fun p n c e => by cases e; exact hc'') HBE4.out)
  have tt : ∀ v u, (W4.setCell ⟨T, 1, none⟩ v).cell? ⟨w1.heap.size, u, none⟩ = W4.cell? ⟨w1.heap.size, u, none⟩ := fun v u => World.cell?_setCell_other _ _ _ _ (fun e2 => by
    have := congrArg Addr.block e2
    have := HT.out.lt.1
    simp at *
    try omega)
  have ts : ∀ v u, (W4.setCell ⟨T, 1, none⟩ v).cell? ⟨w3.heap.size, u, none⟩ = W4.cell? ⟨w3.heap.size, u, none⟩ := fun v u => World.cell?_setCell_other _ _ _ _ (fun e2 => by
    have := congrArg Addr.block e2
    have := HT.out.lt.1
    simp at *
    try omega)
  have c0 : W4.cell? ⟨w1.heap.size, 0, none⟩ = some (.int .u8 (k : Nat)) := by rw [cell_of_row W4 _ _ _ _ _ hr4]; rfl
  have d0 : W4.cell? ⟨w3.heap.size, 0, none⟩ = some (.int .u8 (k : Nat)) := by rw [cell_of_row W4 _ _ _ _ _ hrow4]; rfl
  have c1 : W4.cell? ⟨w1.heap.size, 1, none⟩ = some (.int .u64 (a0 : Nat)) := by rw [cell_of_row W4 _ _ _ _ _ hr4]; rfl
  have d1 : W4.cell? ⟨w3.heap.size, 1, none⟩ = some (.int .u64 (a0 : Nat)) := by rw [cell_of_row W4 _ _ _ _ _ hrow4]; rfl
  have c2 : W4.cell? ⟨w1.heap.size, 2, none⟩ = some (.int .u64 (a1 : Nat)) := by rw [cell_of_row W4 _ _ _ _ _ hr4]; rfl
  have d2 : W4.cell? ⟨w3.heap.size, 2, none⟩ = some (.int .u64 (a1 : Nat)) := by rw [cell_of_row W4 _ _ _ _ _ hrow4]; rfl
  have c3 : W4.cell? ⟨w1.heap.size, 3, none⟩ = some (.int .u64 (a2 : Nat)) := by rw [cell_of_row W4 _ _ _ _ _ hr4]; rfl
  have d3 : W4.cell? ⟨w3.heap.size, 3, none⟩ = some (.int .u64 (a2 : Nat)) := by rw [cell_of_row W4 _ _ _ _ _ hrow4]; rfl
  have c4 : W4.cell? ⟨w1.heap.size, 4, none⟩ = some (.int .u64 (a3 : Nat)) := by rw [cell_of_row W4 _ _ _ _ _ hr4]; rfl
  have d4 : W4.cell? ⟨w3.heap.size, 4, none⟩ = some (.int .u64 (a3 : Nat)) := by rw [cell_of_row W4 _ _ _ _ _ hrow4]; rfl
  have c5 : W4.cell? ⟨w1.heap.size, 5, none⟩ = some (.int .u64 (a4 : Nat)) := by rw [cell_of_row W4 _ _ _ _ _ hr4]; rfl
  have d5 : W4.cell? ⟨w3.heap.size, 5, none⟩ = some (.int .u64 (a4 : Nat)) := by rw [cell_of_row W4 _ _ _ _ _ hrow4]; rfl
  have c6 : W4.cell? ⟨w1.heap.size, 6, none⟩ = some (.int .u64 (a5 : Nat)) := by rw [cell_of_row W4 _ _ _ _ _ hr4]; rfl
  have d6 : W4.cell? ⟨w3.heap.size, 6, none⟩ = some (.int .u64 (a5 : Nat)) := by rw [cell_of_row W4 _ _ _ _ _ hrow4]; rfl
  have c7 : W4.cell? ⟨w1.heap.size, 7, none⟩ = some (.int .u64 (a6 : Nat)) := by rw [cell_of_row W4 _ _ _ _ _ hr4]; rfl
  have d7 : W4.cell? ⟨w3.heap.size, 7, none⟩ = some (.int .u64 (a6 : Nat)) := by rw [cell_of_row W4 _ _ _ _ _ hrow4]; rfl
  have TCD := hid (show ∀ v, (W4.setCell ⟨T, 1, none⟩ v).cell? ⟨w1.heap.size, 0, none⟩ = some (.int .u8 (k : Nat)) ∧ (W4.setCell ⟨T, 1, none⟩ v).cell? ⟨w1.heap.size, 1, none⟩ = some (.int .u64 (a0 : Nat)) ∧ (W4.setCell ⟨T, 1, none⟩ v).cell? ⟨w1.heap.size, 2, none⟩ = some (.int .u64 (a1 : Nat)) ∧ (W4.setCell ⟨T, 1, none⟩ v).cell? ⟨w1.heap.size, 3, none⟩ = some (.int .u64 (a2 : Nat)) ∧ (W4.setCell ⟨T, 1, none⟩ v).cell? ⟨w1.heap.size, 4, none⟩ = some (.int .u64 (a3 : Nat)) ∧ (W4.setCell ⟨T, 1, none⟩ v).cell? ⟨w1.heap.size, 5, none⟩ = some (.int .u64 (a4 : Nat)) ∧ (W4.setCell ⟨T, 1, none⟩ v).cell? ⟨w1.heap.size, 6, none⟩ = some (.int .u64 (a5 : Nat)) ∧ (W4.setCell ⟨T, 1, none⟩ v).cell? ⟨w1.heap.size, 7, none⟩ = some (.int .u64 (a6 : Nat)) ∧ (W4.setCell ⟨T, 1, none⟩ v).cell? ⟨w3.heap.size, 0, none⟩ = some (.int .u8 (k : Nat)) ∧ (W4.setCell ⟨T, 1, none⟩ v).cell? ⟨w3.heap.size, 1, none⟩ = some (.int .u64 (a0 : Nat)) ∧ (W4.setCell ⟨T, 1, none⟩ v).cell? ⟨w3.heap.size, 2, none⟩ = some (.int .u64 (a1 : Nat)) ∧ (W4.setCell ⟨T, 1, none⟩ v).cell? ⟨w3.heap.size, 3, none⟩ = some (.int .u64 (a2 : Nat)) ∧ (W4.setCell ⟨T, 1, none⟩ v).cell? ⟨w3.heap.size, 4, none⟩ = some (.int .u64 (a3 : Nat)) ∧ (W4.setCell ⟨T, 1, none⟩ v).cell? ⟨w3.heap.size, 5, none⟩ = some (.int .u64 (a4 : Nat)) ∧ (W4.setCell ⟨T, 1, none⟩ v).cell? ⟨w3.heap.size, 6, none⟩ = some (.int .u64 (a5 : Nat)) ∧ (W4.setCell ⟨T, 1, none⟩ v).cell? ⟨w3.heap.size, 7, none⟩ = some (.int .u64 (a6 : Nat)) from fun v => ⟨(tt v 0).trans c0, (tt v 1).trans c1, (tt v 2).trans c2, (tt v 3).trans c3, (tt v 4).trans c4, (tt v 5).trans c5, (tt v 6).trans c6, (tt v 7).trans c7, (ts v 0).trans d0, (ts v 1).trans d1, (ts v 2).trans d2, (ts v 3).trans d3, (ts v 4).trans d4, (ts v 5).trans d5, (ts v 6).trans d6, (ts v 7).trans d7⟩)
  have q := eqF (k : Nat) (a0 : Nat) (a1 : Nat) (a2 : Nat) (a3 : Nat) (a4 : Nat) (a5 : Nat) (a6 : Nat)
  clear hU' hb hb4 hrow4 hW4 hWZ hbb hr4 trow tt ts HS2 HS4 HR2 HR4 HO2 HO4 HBE HBE4 t1 hl1 hl2 hl3 hlr
  clear c0 d0 c1 d1 c2 d2 c3 d3 c4 d4 c5 d5 c6 d6 c7 d7
  by_cases hcp : c' = 64
  · have n5 : c' - 64 = 0 := by omega
    have n6 : ys.length - 64 = 0 := by omega
    have GO := hid (GOES.out o 0 (Or.inl (List.drop_eq_nil_of_le (by omega))) (by omega))
    rw [n6] at GO
    obtain ⟨x0, x1, x2, x3, x4, x5, x6, x7, x8, x9, x10, x11, x12, x13, x14, x15⟩ := TCD.out (.slice (some ⟨b, o, none⟩) 0 0)
    go_wp2_with (first | (refine wpList_store_row (by rfl) 31 (.tmp 9) (.tmp 81) (by rfl) w3.heap.size #[.int .u8 (k : Nat), .int .u64 (a0 : Nat), .int .u64 (a1 : Nat), .int .u64 (a2 : Nat), .int .u64 (a3 : Nat), .int .u64 (a4 : Nat), .int .u64 (a5 : Nat), .int .u64 (a6 : Nat)] (by rfl) (by rfl) 31 fz (heap_alloc_new _ _) G31.out rfl G1.out ?_))
    all_goals go_ret
    all_goals exact ⟨rfl, GO.out⟩
  · have n5 : ¬ (c' - 64 = 0) := by omega
    have n6 : (64 : Int) < (c' : Int) := by omega
    have GO := hid (GOES.out (o + 64) (c' - 64) (Or.inr rfl) (by omega))
    obtain ⟨x0, x1, x2, x3, x4, x5, x6, x7, x8, x9, x10, x11, x12, x13, x14, x15⟩ := TCD.out (.slice (some ⟨b, o + 64, none⟩) (ys.length - 64) (c' - 64))
    go_wp2_with (first | (refine wpList_store_row (by rfl) 31 (.tmp 9) (.tmp 81) (by rfl) w3.heap.size #[.int .u8 (k : Nat), .int .u64 (a0 : Nat), .int .u64 (a1 : Nat), .int .u64 (a2 : Nat), .int .u64 (a3 : Nat), .int .u64 (a4 : Nat), .int .u64 (a5 : Nat), .int .u64 (a6 : Nat)] (by rfl) (by rfl) 31 fz (heap_alloc_new _ _) G31.out rfl G1.out ?_))
    all_goals go_ret
    all_goals exact ⟨rfl, GO.out⟩
end Go.Proofs.YtlhfkflomicogaaDoor
