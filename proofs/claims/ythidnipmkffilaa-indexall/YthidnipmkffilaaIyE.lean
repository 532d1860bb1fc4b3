/-
  Clear, the program's and the document's.
-/
import Derived.Test.YthidnipmkffilaaIyD
import Derived.Lib.SliceRun
namespace Go.Proofs.Ythidnipmkffilaa
open Go.RowKit Go.Deep
set_option linter.unusedVariables false
set_option linter.unusedSimpArgs false
theorem setCells_row (P : Nat) (t : TypeId) : ∀ (vs : List Value) (o : Nat) (w : World) (cs : Array Value), w.heap[P]? = some (.cells cs t (0, 0)) → o + vs.length ≤ cs.size →
    ∃ cs', (w.setCells P o vs).heap[P]? = some (.cells cs' t (0, 0)) ∧ cs'.size = cs.size ∧ (∀ j, j < vs.length → cs'[o + j]? = vs[j]?) ∧ (∀ j, j < o → cs'[j]? = cs[j]?)
  | [], o, w, cs, h, _ => ⟨cs, h, rfl, fun j hj => by simp at hj, fun j hj => rfl⟩
  | v :: r, o, w, cs, h, hs => by
    have h1 := heap_setCell_same w P o cs t v h
    obtain ⟨cs', a, b, c, d⟩ := setCells_row P t r (o + 1) (w.setCell ⟨P, o, none⟩ v) (cs.setIfInBounds o v) h1 (by simp at hs ⊢; omega)
    refine ⟨cs', a, by simpa using b, fun j hj => ?_, fun j hj => ?_⟩
    · cases j with
      | zero =>
        have ho : o < cs.size := by simp at hs; omega
        rw [Nat.add_zero, d o (by omega)]
        simp [Array.getElem?_setIfInBounds, ho]
      | succ j =>
        rw [show o + (j + 1) = o + 1 + j by omega, c j (by simpa using hj)]
        rfl
    · rw [d j (by omega)]
      simp [Array.getElem?_setIfInBounds]
      omega
theorem setCells_kp (P : Nat) : ∀ (vs : List Value) (o : Nat) (w : World), Kp (fun b => b = P) w (w.setCells P o vs)
  | [], o, w => Kp.refl _ w
  | v :: r, o, w => (Kp.setCell (B := fun b => b = P) rfl o v).trans (setCells_kp P r (o + 1) _)
theorem zc_one (n : Nat) : ∀ v ∈ (zc n).toList, v.oneCell' = true := by
  intro v hv
  unfold zc madeCells at hv
  simp at hv
  obtain ⟨i, hi, rfl⟩ := hv
  have : i % 3 = 0 ∨ i % 3 = 1 ∨ i % 3 = 2 := by omega
  rcases this with h | h | h <;> simp [h, Value.oneCell']
theorem zero71 (w : World) : (zeroValue 71).run Try.prog w = .ok (.agg #[.bool false, .int .u64 0, .int .i64 0]) w := by kernel_rfl
theorem run_clear3 {w : World} {X P n room : Nat} {T : Ix.Tab} (h : Lx w X P n room T) (ty : TypeId) : (Builtin.clear_ #[67] ty #[.slice (some ⟨P, 0, none⟩) n n]).run Try.prog w = .ok (.tuple #[]) (w.setCells P 0 (zc n).toList) := by
  have hn := h.pos
  obtain ⟨cs, h1, h2, _⟩ := h.pl
  have hz : (Builtin.zeroCells #[.bool false, .int .u64 0, .int .i64 0] n).toList = (zc n).toList := rfl
  have hl : (zc n).toList.length = 3 * n := by rw [Array.length_toList]; exact zc_size n
  have hst := run_storeCells_cells (P := Try.prog) P 0 (zc n).toList 0 w (fun j hj => by
    rw [hl] at hj
    simp only [Nat.zero_add]
    rw [row_cell h1, Array.getElem?_eq_getElem (by omega)]
    rfl) (fun j hj => frozen_of_row w P _ cs 71 h1) (zc_one n)
  simp only [Nat.add_zero] at hst
  obtain ⟨m, rfl⟩ : ∃ m, n = m + 1 := ⟨n - 1, by omega⟩
  simp only [Builtin.clear_]
  simp [run_underlying Try.underlying67, zero71, Value.cells, hz, hst]
set_option maxHeartbeats 1000000 in
set_option maxRecDepth 100000 in
theorem clear_any {w : World} {X P n room : Nat} {T : Ix.Tab} (h : Lx w X P n room T) :
    Calls Try.prog 30 #[.pointer (some ⟨X, 0, none⟩)] w fun e w' => e = .returned (.tuple #[]) ∧ Lx w' X P n room Ix.nil ∧ Kp (fun b => b = X ∨ b = P) w w' := by
  have hcl := run_clear3 h
  obtain ⟨x0, x1, x2⟩ := h.cells
  have hXP := h.neXP
  obtain ⟨cs, h1, h2, _⟩ := h.pl
  have hl : (zc n).toList.length = 3 * n := by rw [Array.length_toList]; exact zc_size n
  obtain ⟨cs', g1, g2, g3, _⟩ := setCells_row P 71 (zc n).toList 0 w cs h1 (by rw [hl, h2]; omega)
  have hk := setCells_kp P (zc n).toList 0 w
  obtain ⟨W, hW⟩ : ∃ W, w.setCells P 0 (zc n).toList = W := ⟨_, rfl⟩
  rw [hW] at hcl g1 hk
  have hXr := hk.row h.row hXP
  have y1 := row_cell hXr 1
  have f1 := frozen_of_row W X 1 _ _ hXr
  simp only [List.getElem?_toArray, List.getElem?_cons_succ, List.getElem?_cons_zero] at y1
  have HF := hid (show Lx (W.setCell ⟨X, 1, none⟩ (.int .i64 0)) X P n room Ix.nil ∧ Kp (fun b => b = X ∨ b = P) w (W.setCell ⟨X, 1, none⟩ (.int .i64 0)) from by
    refine ⟨⟨?_, ?_, h.pow, h.two, h.one, h.most, by rw [Ix.cnt_nil]; omega, fun i k v _ e => by simp [Ix.nil] at e⟩, (hk.mono (fun _ _ h => .inr h)).trans (Kp.setCell (B := fun b => b = X ∨ b = P) (.inl rfl) 1 _)⟩
    · rw [heap_setCell_same W X 1 _ 69 _ hXr, Ix.cnt_nil]; rfl
    · refine ⟨cs', ?_, by rw [g2, h2], fun i hi => ?_⟩
      · rw [heap_setCell_other _ _ _ _ (by show P ≠ X; exact Ne.symm hXP)]; exact g1
      · obtain ⟨z0, z1, z2⟩ := zc_at hi
        refine ⟨?_, ?_, ?_⟩
        · have := g3 (i * 3) (by rw [hl]; omega); rw [Nat.zero_add] at this; rw [this, Array.getElem?_toList]; exact z0
        · have := g3 (i * 3 + 1) (by rw [hl]; omega); rw [Nat.zero_add] at this; rw [this, Array.getElem?_toList]; exact z1
        · have := g3 (i * 3 + 2) (by rw [hl]; omega); rw [Nat.zero_add] at this; rw [this, Array.getElem?_toList]; exact z2)
  clear h h1 h2 g1 g2 g3 hk hW hXr hl
  go_enter Try.func30, Try.ntmps30
  go_wp2
  go_end0
  exact ⟨rfl, HF.out⟩
set_option maxHeartbeats 1000000 in
set_option maxRecDepth 100000 in
theorem rclear_any {w : World} {X P n room : Nat} {T : Ix.Tab} (h : Rx w X P n room T) :
    Calls Try.prog 31 #[.pointer (some ⟨X, 0, none⟩)] w fun e w' => e = .returned (.tuple #[]) ∧ Rx w' X w.heap.size n room Ix.nil ∧ Kp (fun b => b = X) w w' := by
  have hp := h.pos
  have hmost := h.most
  obtain ⟨i0, hi, hz0, hz1, hz2⟩ := info_parts info74all
  have hmk : ∀ u : World, (Instr.makeSlice 31 (.int .i64 (n : Nat)) (.int .i64 (n : Nat))).run Try.prog u = .ok (.slice (some ⟨u.heap.size, 0, none⟩) n n) (u.alloc (.cells (zc n) 74)) := fun u => by
    have := run_make (P := Try.prog) u 31 74 i0 (.agg #[.bool false, .int .u64 0, .int .i64 0]) Try.underlying31 hi hz0 .i64 .i64 (n : Nat) (n : Nat) (by omega) (by omega) (by rw [hz2]; omega) (by omega)
    rw [hz1] at this
    simpa [Value.cells, zc] using this
  obtain ⟨x0, x1, x2⟩ := h.cells
  have hb := ball w (.cells (zc n) 74)
  have hlt := h.ltX
  have hr := row_on h.row hb
  have hq := heap_alloc_new w (.cells (zc n) 74)
  obtain ⟨W, hW⟩ : ∃ W, w.alloc (.cells (zc n) 74) = W := ⟨_, rfl⟩
  have hmk2 := hmk w
  rw [hW] at hb hr hq hmk2
  have y1 := row_cell hr 1
  have y2 := row_cell hr 2
  have f1 := frozen_of_row W X 1 _ _ hr
  have f2 := frozen_of_row W X 2 _ _ hr
  simp only [List.getElem?_toArray, List.getElem?_cons_succ, List.getElem?_cons_zero] at y1 y2
  have HF := hid (show Rx ((W.setCell ⟨X, 2, none⟩ (.slice (some ⟨w.heap.size, 0, none⟩) n n)).setCell ⟨X, 1, none⟩ (.int .i64 0)) X w.heap.size n room Ix.nil ∧ Kp (fun b => b = X) w ((W.setCell ⟨X, 2, none⟩ (.slice (some ⟨w.heap.size, 0, none⟩) n n)).setCell ⟨X, 1, none⟩ (.int .i64 0)) from by
    refine ⟨⟨?_, ?_, h.pow, h.two, h.one, h.most, by rw [Ix.cnt_nil]; omega, fun i k v _ e => by simp [Ix.nil] at e⟩, ((Kp.ofBelow _ hb).trans (Kp.setCell (B := fun b => b = X) rfl 2 _)).trans (Kp.setCell (B := fun b => b = X) rfl 1 _)⟩
    · rw [heap_setCell_same _ X 1 _ 33 _ (heap_setCell_same W X 2 _ 33 _ hr), Ix.cnt_nil]; rfl
    · refine plr_zc ?_
      rw [heap_setCell_other _ _ _ _ (by show w.heap.size ≠ X; omega), heap_setCell_other _ _ _ _ (by show w.heap.size ≠ X; omega)]; exact hq)
  clear h hi hz0 hz1 hz2 hmk hb hr hq hW hp
  go_enter Try.func31, Try.ntmps31
  go_wp2
  go_end0
  exact ⟨rfl, HF.out⟩
end Go.Proofs.Ythidnipmkffilaa
