/-
  Tracks: a reader and what came to it. Steps: Left, Close, none.
-/
import Derived.Test.YtffgcdhhjboppaaDoorRdC
import Derived.Deep.RegionHeld3
namespace Go.Proofs.YtffgcdhhjboppaaDoor
open Go.RowKit Go.Deep Crc
set_option linter.unusedVariables false
set_option linter.unusedSimpArgs false

/-- a track: at T; its reader at R; what came and was not read. -/
def Tr (base : Nat) (w : World) (T R : Nat) (ys : List Nat) (hv cv : Value) : Prop :=
  base ≤ T ∧ w.heap[T]? = some (.cells #[.pointer (some ⟨R, 0, none⟩), cv] 51 (0, 0)) ∧ RdG base w R ys hv ∧ Sx w cv ys ∧
    (∀ g, cv.ownBlock = some g → g < w.heap.size ∧ base ≤ g ∧ ¬ g = T ∧ ¬ g = R ∧ ¬ hv.ownBlock = some g) ∧ ∀ p n c, cv = .slice p n c → n ≤ c
/-- what a step leaves. -/
def Goes (base : Nat) (w w' : World) (T R : Nat) (hv cv : Value) (zs : List Nat) : Prop :=
  ∃ hv' cv', Tr base w' T R zs hv' cv' ∧ (hv'.ownBlock = hv.ownBlock ∨ ∀ g, hv'.ownBlock = some g → w.heap.size ≤ g) ∧ (cv'.ownBlock = cv.ownBlock ∨ ∀ g, cv'.ownBlock = some g → w.heap.size ≤ g) ∧
    (∀ b, b < w.heap.size → ¬ b = T → ¬ b = R → ¬ hv.ownBlock = some b → w'.heap[b]? = w.heap[b]?) ∧ w.heap.size ≤ w'.heap.size ∧ Below base w w'
theorem Sx.kept {w w' : World} {v : Value} {xs : List Nat} (h : Sx w v xs) (hk : ∀ g, v.ownBlock = some g → w'.heap[g]? = w.heap[g]?) : Sx w' v xs := by
  rcases h with h | h | ⟨b, o, cap, e, h⟩
  · exact Or.inl h
  · exact Or.inr (Or.inl h)
  · refine Or.inr (Or.inr ⟨b, o, cap, e, ?_⟩)
    intro i hi
    have h1 := h i hi
    rw [← h1]
    exact World.cell?_of_block (hk b (by rw [e]; rfl))
theorem Tr.to {base : Nat} {w w' : World} {T R : Nat} {ys : List Nat} {hv cv : Value} (h : Tr base w T R ys hv cv) (hb : Below w.heap.size w w') : Tr base w' T R ys hv cv := by
  obtain ⟨h0, h1, h2, h3, h4, h5⟩ := h
  exact ⟨h0, (hb.block T (Array.getElem?_eq_some_iff.1 h1).1).trans h1, h2.to hb, h3.to hb, fun g hg => ⟨Nat.lt_of_lt_of_le (h4 g hg).1 hb.size, (h4 g hg).2⟩, h5⟩
theorem Tr.still {base : Nat} {w w' : World} {T R : Nat} {ys : List Nat} {hv cv : Value} (h : Tr base w T R ys hv cv) (hb : Below w.heap.size w w') : Goes base w w' T R hv cv ys :=
  ⟨hv, cv, h.to hb, Or.inl rfl, Or.inl rfl, fun b hl _ _ _ => blk_to hb hl, hb.size, hb.mono (by have := h.1; have := (Array.getElem?_eq_some_iff.1 h.2.1).1; omega)⟩
theorem Tr.ne {base : Nat} {w : World} {T R : Nat} {ys : List Nat} {hv cv : Value} (h : Tr base w T R ys hv cv) : ¬ T = R := by
  intro e
  obtain ⟨_, h1, ⟨_, _, h2, _⟩, _⟩ := h
  rw [e, h2] at h1
  simp at h1
theorem Tr.len {base : Nat} {w : World} {T R : Nat} {ys : List Nat} {hv cv : Value} (h : Tr base w T R ys hv cv) : ∃ p c, cv = .slice p ys.length c := h.2.2.2.1.form

set_option maxHeartbeats 1000000 in
set_option maxRecDepth 100000 in
theorem step_none (base : Nat) (w : World) (T R : Nat) (ys : List Nat) (hv cv : Value) (kd : Int) (ot : Bool) (p : Option Addr) (n c : Nat) (h : Tr base w T R ys hv cv) (k0 : ¬ kd = 0) (k1 : ¬ kd = 1) (k2 : ¬ kd = 2) (k3 : ¬ kd = 3) :
    Calls Tryd.prog 20 #[.pointer (some ⟨T, 0, none⟩), .agg #[.int .i64 kd, .bool ot, .slice p n c]] w fun e w' => e = .returned (.bool true) ∧ Goes base w w' T R hv cv ys := by
  have HT := hid h
  clear h
  have e0 : (kd == 0) = false := by simpa using k0
  have e1 : (kd == 1) = false := by simpa using k1
  have e2 : (kd == 2) = false := by simpa using k2
  have e3 : (kd == 3) = false := by simpa using k3
  go_enter Tryd.func20, Tryd.ntmps20
  go_wp2
  go_ret
  exact ⟨rfl, HT.out.still (bal (Below.refl _ _) _)⟩

set_option maxHeartbeats 1000000 in
set_option maxRecDepth 100000 in
theorem step_left (base : Nat) (w : World) (T R : Nat) (ys : List Nat) (hv cv : Value) (ot : Bool) (p : Option Addr) (n c : Nat) (h : Tr base w T R ys hv cv) :
    Calls Tryd.prog 20 #[.pointer (some ⟨T, 0, none⟩), .agg #[.int .i64 2, .bool ot, .slice p n c]] w fun e w' => e = .returned (.bool true) ∧ Goes base w w' T R hv cv ys := by
  have HT := hid h
  obtain ⟨q, c', rfl⟩ := h.len
  clear h
  obtain ⟨W, hW⟩ : ∃ W, w.alloc (.cells #[.int .i64 2, .bool ot, .slice p n c] 53) = W := ⟨_, rfl⟩
  have HB := hid (show Below w.heap.size w W by rw [← hW]; exact bal (Below.refl _ _) _)
  have HTW := hid (HT.out.to HB.out)
  have hbx : W.heap[w.heap.size]? = some (.cells #[.int .i64 2, .bool ot, .slice p n c] 53 (0, 0)) := by rw [← hW]; exact heap_alloc_new w _
  have oc0 : W.cell? ⟨w.heap.size, 0, none⟩ = some (.int .i64 2) := by rw [cell_of_row W _ _ _ _ _ hbx]; rfl
  clear hbx
  have keep : ∀ w' : World, Below W.heap.size W w' → (w'.cell? ⟨T, 0, none⟩ = some (.pointer (some ⟨R, 0, none⟩)) ∧ w'.cell? ⟨T, 1, none⟩ = some (.slice q ys.length c')) ∧ Below W.heap.size W w' := by
    intro w' hb
    have h1 := (HTW.out.to hb).2.1
    exact ⟨⟨by rw [cell_of_row w' _ _ _ _ _ h1]; rfl, by rw [cell_of_row w' _ _ _ _ _ h1]; rfl⟩, hb⟩
  have KEEP := hid keep
  clear keep
  go_enter Tryd.func20, Tryd.ntmps20
  go_wp2
  (try rw [hW])
  clear hW oc0
  go_region_held3 (fun w' => (w'.cell? ⟨T, 0, none⟩ = some (.pointer (some ⟨R, 0, none⟩)) ∧ w'.cell? ⟨T, 1, none⟩ = some (.slice q ys.length c')) ∧ Below W.heap.size W w')
    (first | exact KEEP.out _ (Below.drew (Below.refl _ _)) | exact KEEP.out _ HK.out)
    (first
    | (go_at_call 21; refine (rleft_any base _ R ys ((HTW.out.to (by first | exact HK.out | exact Below.drew (Below.refl _ _))).2.2.1.rd)).mono ?_; rintro e wx ⟨rfl, rfl⟩; have HK := hid (show Below W.heap.size W _ from (by first | exact HK.out | exact Below.drew (Below.refl _ _)))))
  all_goals
    go_wp2
    go_ret
    exact ⟨rfl, HT.out.still (btr HB.out HK.out)⟩
end Go.Proofs.YtffgcdhhjboppaaDoor
