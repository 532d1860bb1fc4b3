/-
  Tracks: the steps Close and Next.
-/
import Derived.Test.YtlhfkflomicogaaDoorStA
namespace Go.Proofs.YtlhfkflomicogaaDoor
open Go.RowKit Go.Deep Crc
set_option linter.unusedVariables false
set_option linter.unusedSimpArgs false

theorem Held.own {w : World} {base : Nat} {hv : Value} {ys : List Nat} (h : Held w base hv ys) : ∀ g, hv.ownBlock = some g → base ≤ g ∧ ∃ cur, w.heap[g]? = some (.cells cur 5 (0, 0)) := by
  intro g hg
  rcases h with ⟨_, rfl⟩ | ⟨g', o, cap, cur, rfl, hbg, hgg, _⟩
  · simp [Value.ownBlock] at hg
  · simp only [Value.ownBlock, Option.some.injEq] at hg
    subst hg
    exact ⟨hbg, cur, hgg⟩
theorem Held.kept {w w' : World} {base : Nat} {hv : Value} {ys : List Nat} (h : Held w base hv ys) (hk : ∀ g, hv.ownBlock = some g → w'.heap[g]? = w.heap[g]?) : Held w' base hv ys := by
  rcases h with h | ⟨g, o, cap, cur, rfl, hbg, hg, r1, r2, r3, hB⟩
  · exact Or.inl h
  · have e := hk g rfl
    exact Or.inr ⟨g, o, cap, cur, rfl, hbg, e.trans hg, r1, r2, r3, fun i hi => (World.cell?_of_block (a := ⟨g, o + i, none⟩) e).trans (hB i hi)⟩
theorem RdG.kept {w w' : World} {base R : Nat} {hv : Value} {ys : List Nat} (h : RdG base w R ys hv) (hR : w'.heap[R]? = w.heap[R]?) (hk : ∀ g, hv.ownBlock = some g → w'.heap[g]? = w.heap[g]?) : RdG base w' R ys hv :=
  ⟨h.1, h.2.1, hR.trans h.2.2.1, h.2.2.2.kept hk⟩
theorem Tr.lt {base : Nat} {w : World} {T R : Nat} {ys : List Nat} {hv cv : Value} (h : Tr base w T R ys hv cv) : T < w.heap.size ∧ R < w.heap.size ∧ base ≤ w.heap.size ∧ ∀ g, hv.ownBlock = some g → g < w.heap.size ∧ ¬ g = T ∧ ¬ g = R := by
  obtain ⟨h0, h1, ⟨_, _, h2, h3⟩, _⟩ := h
  have l1 := (Array.getElem?_eq_some_iff.1 h1).1
  refine ⟨l1, (Array.getElem?_eq_some_iff.1 h2).1, by omega, fun g hg => ?_⟩
  obtain ⟨_, cur, hc⟩ := h3.own g hg
  refine ⟨(Array.getElem?_eq_some_iff.1 hc).1, ?_, ?_⟩
  · intro e
    rw [e, h1] at hc
    simp at hc
  · intro e
    rw [e, h2] at hc
    simp at hc
/-- the row of a track, where none but its reader was touched. -/
theorem Tr.row {base : Nat} {w w1 : World} {T R : Nat} {ys : List Nat} {hv cv : Value} (h : Tr base w T R ys hv cv) (hoth : ∀ b, b < w.heap.size → ¬ b = R → ¬ hv.ownBlock = some b → w1.heap[b]? = w.heap[b]?) :
    w1.heap[T]? = some (.cells #[.pointer (some ⟨R, 0, none⟩), cv] 51 (0, 0)) :=
  (hoth T h.lt.1 h.ne (fun e => (h.lt.2.2.2 T e).2.1 rfl)).trans h.2.1
theorem mk_goes {base : Nat} {w w1 w' : World} {T R : Nat} {ys zs : List Nat} {hv cv hv' cv' : Value} (h : Tr base w T R ys hv cv) (hR : RdG base w1 R zs hv')
    (hown : hv'.ownBlock = hv.ownBlock ∨ ∀ g, hv'.ownBlock = some g → w.heap.size ≤ g) (hoth : ∀ b, b < w.heap.size → ¬ b = R → ¬ hv.ownBlock = some b → w1.heap[b]? = w.heap[b]?) (hsz : w.heap.size ≤ w1.heap.size)
    (hS : Sx w1 cv' zs) (hc : ∀ g, cv'.ownBlock = some g → g < w1.heap.size ∧ base ≤ g ∧ ¬ g = T ∧ ¬ g = R ∧ ¬ hv'.ownBlock = some g) (hco : cv'.ownBlock = cv.ownBlock ∨ ∀ g, cv'.ownBlock = some g → w.heap.size ≤ g) (hcap : ∀ p n c, cv' = .slice p n c → n ≤ c)
    (hrow : w'.heap[T]? = some (.cells #[.pointer (some ⟨R, 0, none⟩), cv'] 51 (0, 0))) (hkeep : ∀ b, (b = R ∨ hv'.ownBlock = some b ∨ cv'.ownBlock = some b ∨ (b < w.heap.size ∧ ¬ b = T)) → w'.heap[b]? = w1.heap[b]?)
    (hsz' : w1.heap.size ≤ w'.heap.size) (hbel : Below base w w') : Goes base w w' T R hv cv zs := by
  refine ⟨hv', cv', ⟨h.1, hrow, hR.kept (hkeep R (Or.inl rfl)) (fun g hg => hkeep g (Or.inr (Or.inl hg))), hS.kept (fun g hg => hkeep g (Or.inr (Or.inr (Or.inl hg)))), fun g hg => ⟨Nat.lt_of_lt_of_le (hc g hg).1 hsz', (hc g hg).2⟩, hcap⟩, hown, hco, ?_, Nat.le_trans hsz hsz', hbel⟩
  intro b hb hbT hbR hbh
  exact (hkeep b (Or.inr (Or.inr (Or.inr ⟨hb, hbT⟩)))).trans (hoth b hb hbR hbh)
/-- .. where the last step puts a slice into the track. -/
theorem put_goes {base : Nat} {w w1 : World} {T R : Nat} {ys zs : List Nat} {hv cv hv' cv' : Value} (h : Tr base w T R ys hv cv) (hR : RdG base w1 R zs hv')
    (hown : hv'.ownBlock = hv.ownBlock ∨ ∀ g, hv'.ownBlock = some g → w.heap.size ≤ g) (hoth : ∀ b, b < w.heap.size → ¬ b = R → ¬ hv.ownBlock = some b → w1.heap[b]? = w.heap[b]?) (hsz : w.heap.size ≤ w1.heap.size)
    (hS : Sx w1 cv' zs) (hc : ∀ g, cv'.ownBlock = some g → g < w1.heap.size ∧ base ≤ g ∧ ¬ g = T ∧ ¬ g = R ∧ ¬ hv'.ownBlock = some g) (hco : cv'.ownBlock = cv.ownBlock ∨ ∀ g, cv'.ownBlock = some g → w.heap.size ≤ g) (hcap : ∀ p n c, cv' = .slice p n c → n ≤ c)
    (hbel : Below base w w1) : Goes base w (w1.setCell ⟨T, 1, none⟩ cv') T R hv cv zs := by
  refine mk_goes h hR hown hoth hsz hS hc hco hcap ?_ ?_ (by simp) (hbel.setCell h.1 _)
  · rw [heap_setCell_same w1 T 1 _ 51 _ (h.row hoth)]
    simp
  · intro b hb
    refine heap_setCell_other _ _ _ _ ?_
    show ¬ b = T
    rcases hb with rfl | hb | hb | hb
    · exact fun e => h.ne e.symm
    · rcases hown with ho | ho
      · rw [ho] at hb
        exact (h.lt.2.2.2 b hb).2.1
      · have := ho b hb
        have := h.lt.1
        omega
    · exact (hc b hb).2.2.1
    · exact hb.2
theorem own_or {hv hv' : Value} {n : Nat} (h : hv'.ownBlock = hv.ownBlock ∨ hv'.ownBlock = none) : hv'.ownBlock = hv.ownBlock ∨ ∀ g, hv'.ownBlock = some g → n ≤ g :=
  h.imp id fun e g hg => by rw [e] at hg; cases hg

set_option maxHeartbeats 1000000 in
set_option maxRecDepth 100000 in
theorem step_close (base : Nat) (w : World) (T R : Nat) (ys : List Nat) (hv cv : Value) (ot : Bool) (p : Option Addr) (n c : Nat) (h : Tr base w T R ys hv cv) (hm : ys.length < 9223372036854775808) :
    Calls Tryd.prog 20 #[.pointer (some ⟨T, 0, none⟩), .agg #[.int .i64 3, .bool ot, .slice p n c]] w fun e w' => e = .returned (.bool true) ∧ Goes base w w' T R hv cv [] := by
  have HT := hid h
  obtain ⟨q, c', rfl⟩ := h.len
  clear h
  obtain ⟨W, hW⟩ : ∃ W, w.alloc (.cells #[.int .i64 3, .bool ot, .slice p n c] 53) = W := ⟨_, rfl⟩
  have HB := hid (show Below w.heap.size w W by rw [← hW]; exact bal (Below.refl _ _) _)
  have HTW := hid (HT.out.to HB.out)
  have hbx : W.heap[w.heap.size]? = some (.cells #[.int .i64 3, .bool ot, .slice p n c] 53 (0, 0)) := by rw [← hW]; exact heap_alloc_new w _
  have oc0 : W.cell? ⟨w.heap.size, 0, none⟩ = some (.int .i64 3) := by rw [cell_of_row W _ _ _ _ _ hbx]; rfl
  clear hbx
  have t0 : W.cell? ⟨T, 0, none⟩ = some (.pointer (some ⟨R, 0, none⟩)) := by rw [cell_of_row W _ _ _ _ _ HTW.out.2.1]; rfl
  go_enter Tryd.func20, Tryd.ntmps20
  go_wp2_with fail
  refine (rcloseG base W R ys hv HTW.out.2.2.1 hm).mono ?_
  rintro e w1 ⟨he, ⟨hv', hR', hown⟩, hbel, hsz, hoth⟩
  have HO := hid (show ∀ b, b < w.heap.size → ¬ b = R → ¬ hv.ownBlock = some b → w1.heap[b]? = w.heap[b]? from fun b hb hbR _ => (hoth b hbR).trans (blk_to HB.out hb))
  have row := HT.out.row HO.out
  have t1 : w1.cell? ⟨T, 1, none⟩ = some (.slice q ys.length c') := by rw [cell_of_row w1 _ _ _ _ _ row]; rfl
  have f1 : w1.frozen? ⟨T, 1, none⟩ = false := frozen_of_row w1 _ _ _ _ row
  have HG := hid (show Goes base w (w1.setCell ⟨T, 1, none⟩ (.slice none 0 0)) T R hv (.slice q ys.length c') [] from
    put_goes HT.out hR' (own_or hown) HO.out (Nat.le_trans HB.out.size hsz) (Or.inl ⟨rfl, rfl⟩) (fun g hg => by cases hg) (Or.inr fun g hg => by cases hg) (fun p n c e => by cases e; exact Nat.le_refl _) ((HB.out.mono HT.out.lt.2.2.1).trans hbel))
  clear hR' hown hbel hsz hoth row HO hW oc0 t0
  rcases he with ⟨rfl, rfl⟩ | ⟨h0, rfl⟩
  · go_wp2
    go_ret
    exact ⟨rfl, HG.out⟩
  · have h0' : (0 : Int) < (ys.length : Int) := by omega
    go_wp2
    go_ret
    exact ⟨rfl, HG.out⟩

set_option maxHeartbeats 1000000 in
set_option maxRecDepth 100000 in
theorem step_next_short (base : Nat) (w : World) (T R : Nat) (ys : List Nat) (hv cv : Value) (ot : Bool) (p : Option Addr) (n c : Nat) (h : Tr base w T R ys hv cv) (hm : ys.length < 64) :
    Calls Tryd.prog 20 #[.pointer (some ⟨T, 0, none⟩), .agg #[.int .i64 1, .bool ot, .slice p n c]] w fun e w' => e = .returned (.bool true) ∧ Goes base w w' T R hv cv ys := by
  have HT := hid h
  obtain ⟨q, c', rfl⟩ := h.len
  clear h
  obtain ⟨W, hW⟩ : ∃ W, w.alloc (.cells #[.int .i64 1, .bool ot, .slice p n c] 53) = W := ⟨_, rfl⟩
  have HB := hid (show Below w.heap.size w W by rw [← hW]; exact bal (Below.refl _ _) _)
  have HTW := hid (HT.out.to HB.out)
  have hbx : W.heap[w.heap.size]? = some (.cells #[.int .i64 1, .bool ot, .slice p n c] 53 (0, 0)) := by rw [← hW]; exact heap_alloc_new w _
  have oc0 : W.cell? ⟨w.heap.size, 0, none⟩ = some (.int .i64 1) := by rw [cell_of_row W _ _ _ _ _ hbx]; rfl
  clear hbx
  have t0 : W.cell? ⟨T, 0, none⟩ = some (.pointer (some ⟨R, 0, none⟩)) := by rw [cell_of_row W _ _ _ _ _ HTW.out.2.1]; rfl
  have hm' : ((ys.length : Nat) : Int) < 64 := by omega
  go_enter Tryd.func20, Tryd.ntmps20
  go_wp2_with fail
  refine (rnext_short base W R ys HTW.out.2.2.1.rd hm).mono ?_
  rintro e w1 ⟨rfl, _, hb1⟩
  have hb2 : Below w1.heap.size w1 ((w1.alloc (.cells fz 31)).setRow w1.heap.size fz) := below_setRow ((Below.refl w1.heap.size w1).alloc (Nat.le_refl _) _) (Nat.le_refl _) _
  have hrow : ((w1.alloc (.cells fz 31)).setRow w1.heap.size fz).heap[w1.heap.size]? = some (.cells fz 31 (0, 0)) := setRow_heap _ _ _ _ 31 (0, 0) (heap_alloc_new _ _)
  obtain ⟨W2, hW2⟩ : ∃ W, (w1.alloc (.cells fz 31)).setRow w1.heap.size fz = W := ⟨_, rfl⟩
  rw [hW2] at hb2 hrow
  have hWZ : (w1.alloc (.cells #[.int .u8 0, .int .u64 0, .int .u64 0, .int .u64 0, .int .u64 0, .int .u64 0, .int .u64 0, .int .u64 0] 31)).setRow w1.heap.size fz = W2 := hW2
  have HBT := hid (show Below w.heap.size w W2 from btr (btr HB.out hb1) hb2)
  have HT2 := hid (HT.out.to HBT.out)
  have z0 : W2.cell? ⟨w1.heap.size, 0, none⟩ = some (.int .u8 0) := by rw [cell_of_row W2 _ _ _ _ _ hrow]; rfl
  have z1 : W2.cell? ⟨w1.heap.size, 1, none⟩ = some (.int .u64 0) := by rw [cell_of_row W2 _ _ _ _ _ hrow]; rfl
  have z2 : W2.cell? ⟨w1.heap.size, 2, none⟩ = some (.int .u64 0) := by rw [cell_of_row W2 _ _ _ _ _ hrow]; rfl
  have z3 : W2.cell? ⟨w1.heap.size, 3, none⟩ = some (.int .u64 0) := by rw [cell_of_row W2 _ _ _ _ _ hrow]; rfl
  have z4 : W2.cell? ⟨w1.heap.size, 4, none⟩ = some (.int .u64 0) := by rw [cell_of_row W2 _ _ _ _ _ hrow]; rfl
  have z5 : W2.cell? ⟨w1.heap.size, 5, none⟩ = some (.int .u64 0) := by rw [cell_of_row W2 _ _ _ _ _ hrow]; rfl
  have z6 : W2.cell? ⟨w1.heap.size, 6, none⟩ = some (.int .u64 0) := by rw [cell_of_row W2 _ _ _ _ _ hrow]; rfl
  have z7 : W2.cell? ⟨w1.heap.size, 7, none⟩ = some (.int .u64 0) := by rw [cell_of_row W2 _ _ _ _ _ hrow]; rfl
  have t1 : W2.cell? ⟨T, 1, none⟩ = some (.slice q ys.length c') := by rw [cell_of_row W2 _ _ _ _ _ HT2.out.2.1]; rfl
  have qq := eqF 0 0 0 0 0 0 0 0
  clear hW2 hb1 hb2 hrow t0 oc0 hW
  go_wp2_with (first | (refine wpList_store_row (by rfl) 31 (.tmp 6) (.tmp 54) (by rfl) w1.heap.size fz (by rfl) (by rfl) 31 fz (heap_alloc_new _ _) fz_info rfl fz_one ?_))
  go_ret
  exact ⟨rfl, HT.out.still HBT.out⟩
end Go.Proofs.YtlhfkflomicogaaDoor
