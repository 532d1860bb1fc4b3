/-
  ShB
-/
import Derived.Test.YtegaphjbepcgfaaShA
namespace Go.Proofs.Ytegaphjbepcgfaa.Ss
open Go.RowKit Go.Deep
set_option linter.unusedVariables false
set_option linter.unusedSimpArgs false
set_option maxHeartbeats 8000000
set_option maxRecDepth 100000
attribute [local go_sem ↓] Go.wp_at_zero Go.wp_at_succ
def Fin (n i : Nat) (l : List Int) : Prop := l.length = n ∧ ∀ j, j < n → gd l j = if j < i then (j : Int) else 0
theorem Fin.next {n i : Nat} {l : List Int} (h : Fin n i l) (hi : i < n) : Fin n (i + 1) (l.set i (i : Int)) :=
  ⟨by rw [List.length_set]; exact h.1, fun j hj => by
    rw [gd_set (by rw [h.1]; exact hi)]
    by_cases e : j = i
    · rw [if_pos e, if_pos (by omega), e]
    · rw [if_neg e, h.2 j hj]
      by_cases c : j < i
      · rw [if_pos c, if_pos (by omega)]
      · rw [if_neg c, if_neg (by omega)]⟩
theorem greatest_any (rs : List Int) (gr n : Nat) (w : World) (h : Uw w gr n rs) (hn : n ≤ 17592186044416) :
    Calls Try.prog 55 #[.slice (some ⟨gr, 0, none⟩) n n] w fun e w' => ∃ g pl, e = .returned (.slice (some ⟨g, 0, none⟩) n n) ∧ Uz w' g n pl ∧ Ord rs pl ∧ w.heap.size ≤ g ∧ Below w.heap.size w w' := by
  obtain ⟨W1, hW1⟩ : ∃ W, w.alloc (.cells #[.slice (some ⟨gr, 0, none⟩) n n] 25) = W := ⟨_, rfl⟩
  obtain ⟨W2, hW2⟩ : ∃ W, W1.alloc (.cells (madeCells #[.int .i64 0] n) 3) = W := ⟨_, rfl⟩
  have b1 : Below w.heap.size w W1 := by rw [← hW1]; exact (Below.refl _ w).alloc (Nat.le_refl _) _
  have b2 : Below W1.heap.size W1 W2 := by rw [← hW2]; exact (Below.refl _ W1).alloc (Nat.le_refl _) _
  have s1 : W1.heap.size = w.heap.size + 1 := by rw [← hW1]; simp
  have hbx : W1.heap[w.heap.size]? = some (.cells #[.slice (some ⟨gr, 0, none⟩) n n] 25 (0, 0)) := by rw [← hW1]; exact World.alloc_heap_new _ _
  have c0 : W1.cell? ⟨w.heap.size, 0, none⟩ = some (.slice (some ⟨gr, 0, none⟩) n n) := row_cell hbx 0
  have m1 := make_i n hn W1
  rw [hW2] at m1
  have U1 := hid (show Uz W2 W1.heap.size n (List.replicate n 0) from by rw [← hW2]; exact uz_made W1 n)
  have hlt := h.lt
  have CB := hid (show Cb W2 w.heap.size gr n n rs from by
    have hu := (h.on b1).on b2
    refine ⟨?_, fun i hi => hu.cell hi, ?_, hu.lt⟩
    · rw [b2.cell (p := ⟨w.heap.size, 0, none⟩) (by show w.heap.size < W1.heap.size; omega)]; exact c0
    · have := b2.size; omega)
  have B2 := hid (show Below w.heap.size w W2 from b1.trans (b2.mono b1.size))
  obtain ⟨B, hB⟩ : ∃ B, w.heap.size = B := ⟨_, rfl⟩
  obtain ⟨g, hg⟩ : ∃ g, W1.heap.size = g := ⟨_, rfl⟩
  have HGG := hid (show B ≠ g ∧ gr ≠ g ∧ B ≤ g ∧ w.heap.size ≤ g from ⟨by omega, by omega, by omega, by omega⟩)
  have HF0 := hid (show Fin n 0 (List.replicate n 0) from ⟨by simp, fun j hj => by rw [gd_zero, if_neg (by omega)]⟩)
  have HLR := hid h.len
  have HW1 := hid hW1
  rw [hB] at c0 CB
  rw [hg] at m1 U1
  have HB := hid hB
  clear hW1 hW2 b1 b2 s1 hbx hlt h hB hg
  go_enter Try.func55, Try.ntmps55
  go_upto_region 1 with fail
  rw [HW1.out, HB.out]
  go_upto_region 3 with fail
  clear c0 m1
  go_loopw [10] (fun iv wr => ∃ i l, i ≤ n ∧ iv = .int .i64 (i : Nat) ∧ Hid (Uz wr g n l) ∧ Hid (Fin n i l) ∧ Hid (Kp (fun b => b = g) W2 wr)) (fun iv _ => n - (intOf iv).toNat)
  case atStart => exact ⟨0, _, Nat.zero_le _, rfl, U1, HF0, Kp.refl _ _⟩
  case round =>
    obtain ⟨i, l, hin, rfl, V1, F1, K1⟩ := hrel
    clear U1 HF0
    by_cases hlt : i < n
    · have c1 := V1.out.cell hlt
      have f1 := V1.out.frz i
      have i0 : (0 : Int) ≤ (i : Int) := by omega
      have i1 : (i : Int) < (n : Int) := by omega
      have wi : IntKind.i64.wrap ((i : Int) + 1) = ((i + 1 : Nat) : Int) := by rw [IntKind.wrap_i64]; omega
      have N1 := hid (F1.out.next hlt)
      have V2 := hid (V1.out.set hlt (i : Int))
      have K2 := hid (K1.out.trans (Kp.set wr g i (.int .i64 (i : Int))) (fun _ _ e => e))
      have HLT := hid hlt
      go_wp2
      go_roundw
      case rel => exact ⟨i + 1, _, HLT.out, by go_num, V2, N1, K2⟩
      case measure => simp [intOf]; omega
    · obtain rfl : i = n := by omega
      have CQ := cq_of (g := g) (CB.out.kept K1.out HGG.out.1 HGG.out.2.1) HGG.out.1 HGG.out.2.1
      have el : l = pls i := by
        apply List.ext_getElem
        · rw [pls_len]; exact F1.out.1
        · intro j h1 h2
          rw [pls_len] at h2
          have := F1.out.2 j h2
          rw [if_pos h2, gd_get h1] at this
          rw [this, ← gd_get (by rw [pls_len]; exact h2), gd_pls h2]
      rw [el] at V1
      have CS := hid (sorted_any g i i i B _ (pls i) wr V1.out (by omega) (fun x hx => gd_pls hx) (Nat.le_refl _) CQ)
      clear CQ el F1
      go_wp2_with (go_at_call 66; with_reducible refine CS.out.mono ?_; rintro e w4 ⟨rfl, z⟩; have HZ := hid z; clear z)
      go_ret
      obtain ⟨pl, ⟨p1, p2⟩, u1, k1⟩ := HZ.out
      have hlr := HLR.out
      refine ⟨g, pl, rfl, u1, ⟨by rw [hlr]; exact p1, by rw [hlr]; exact p2⟩, HGG.out.2.2.2, B2.out.trans (Kp.below (K1.out.trans k1 (fun _ _ e => e)) B2.out.size (fun j hj e => by have := HGG.out; omega))⟩
end Go.Proofs.Ytegaphjbepcgfaa.Ss
