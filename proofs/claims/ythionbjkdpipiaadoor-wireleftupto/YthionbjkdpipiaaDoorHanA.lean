/-
  Contracts: hand, left.
-/
import Derived.Test.YthionbjkdpipiaaDoorLives
import Derived.Test.YthionbjkdpipiaaDoorRefA
import Derived.Laws.AppendOwnNone
namespace Go.Proofs.YthionbjkdpipiaaDoor
open Go.RowKit Go.Deep Crc
set_option linter.unusedVariables false

/-- bytes that came in: none; an empty slice; some. -/
def Sx (w : World) (v : Value) (xs : List Nat) : Prop :=
  (xs = [] ∧ v = .slice none 0 0) ∨ (xs = [] ∧ ∃ ad cap, v = .slice (some ad) 0 cap) ∨ ∃ b o cap, v = .slice (some ⟨b, o, none⟩) xs.length cap ∧ Bs w b o xs
theorem Sx.sl {w : World} {v : Value} {xs : List Nat} (h : Sx w v xs) : Sl w v xs := by
  rcases h with ⟨rfl, rfl⟩ | ⟨rfl, ad, cap, rfl⟩ | h
  · exact Or.inl ⟨rfl, _, _, rfl⟩
  · exact Or.inl ⟨rfl, _, _, rfl⟩
  · exact Or.inr h
theorem Sx.to {w w' : World} {v : Value} {xs : List Nat} (h : Sx w v xs) (hb : Below w.heap.size w w') : Sx w' v xs := by
  rcases h with h | h | ⟨b, o, cap, e, h⟩
  · exact Or.inl h
  · exact Or.inr (Or.inl h)
  · exact Or.inr (Or.inr ⟨b, o, cap, e, bs_to h hb⟩)
theorem conv_sx (w : World) (v : Value) (xs : List Nat) (h : Sx w v xs) : (convert 22 9 v).run Tryd.prog w = .ok (.string (txt xs)) w := by
  rcases h with ⟨rfl, rfl⟩ | ⟨rfl, ad, cap, rfl⟩ | ⟨b, o, cap, rfl, hB⟩
  · rw [run_convert_bytes_nil w 22 5 Tryd.underlying22 Tryd.underlying5 0 0 9 Tryd.underlying9]; rfl
  · rw [run_convert_bytes_string w 22 9 5 _ 0 cap Tryd.underlying22 Tryd.underlying5 Tryd.underlying9, run_bytesToString w ad 0 cap [] (by simpa using run_loadCells_list (P := Tryd.prog) w ad [] (by simp))]
    rfl
  · exact conv_bytes w b o cap xs xs.length rfl hB

theorem new_cells1 (wa : World) (xs : List Nat) (t : TypeId) (n : Nat) (hn : n = wa.heap.size) : ∀ j v, (bv xs)[j]? = some v → (wa.alloc (.cells (bv xs).toArray t)).cell? ((⟨n, 0, none⟩ : Addr).add j) = some v := by
  intro j v h
  rw [Addr.add_mid, World.cell?_alloc_at _ _ _ _ hn, Nat.zero_add]
  simpa using h
theorem bv_get (ys : List Nat) (i : Nat) (hi : i < ys.length) : (bv ys)[i]? = some (.int .u8 ((ys[i] : Nat) : Int)) := by simp [bv, hi]
theorem txt_size (xs : List Nat) : (txt xs).size = xs.length := by
  show (txt xs).data.size = _
  simp [txt, strOfNums]
theorem txt_append (xs : List Nat) : ((txt (xs ++ [1, 2, 3, 4, 5])).toList == (txt xs ++ (⟨#[1, 2, 3, 4, 5]⟩ : ByteArray)).toList) = true := by
  rw [ByteArray.toList_eq, ByteArray.toList_eq, ByteArray.data_append]
  simp [txt, strOfNums]
/-- a slice of one's own with these bytes. -/
def Mine (w0 w : World) (g cap n : Nat) (ys : List Nat) : Prop := w.ownsRow w0.heap.size 5 1 (.slice (some ⟨g, 0, none⟩) n cap) n (bv ys)

set_option maxHeartbeats 1000000 in
set_option maxRecDepth 100000 in
theorem hand_any (v : Value) (xs : List Nat) (w : World) (hn : xs.length ≤ 140737488351232) (hS : Sx w v xs) :
    Calls Tryd.prog 9 #[v] w fun e w' => ∃ g cap, e = .returned (.slice (some ⟨g, 0, none⟩) (xs.length + 5) cap) ∧ Mine w w' g cap (xs.length + 5) (xs ++ [1, 2, 3, 4, 5]) ∧ Below w.heap.size w w' := by
  obtain ⟨i0, hi, hz0, hz1, hz2⟩ := info_parts info5all
  have I0 := hid hi
  have I1 := hid hz0
  have I2 := hid hz1
  have I3 := hid hz2
  clear hi hz0 hz1 hz2
  have HS := hid (hS.to ((Below.refl w.heap.size w).alloc (Nat.le_refl _) (.cells #[] 5)))
  have HB0 := hid (show Below w.heap.size w (w.alloc (.cells #[] 5)) from (Below.refl w.heap.size w).alloc (Nat.le_refl _) _)
  have HO := hid (World.ownsRow_made (base := w.heap.size) (e := 5) (size := 1) w #[] 0 (Nat.le_refl _) (Nat.zero_le _) rfl)
  have fin : ∀ (v1 : Value) (w1 w2 : World) (v2 : Value), w1.ownsRow w.heap.size 5 1 v1 xs.length (bv xs) → Below w.heap.size w w1 → w2.ownsRow w.heap.size 5 1 v2 (xs.length + 5) (bv xs ++ bv [1, 2, 3, 4, 5]) → (w1.alloc (.cells (bv [1, 2, 3, 4, 5]).toArray 5)).grownBy w2 v1.ownBlock →
      ∃ g cap, Ending.returned v2 = .returned (.slice (some ⟨g, 0, none⟩) (xs.length + 5) cap) ∧ Mine w w2 g cap (xs.length + 5) (xs ++ [1, 2, 3, 4, 5]) ∧ Below w.heap.size w w2 := by
    intro v1 w1 w2 v2 h1 h2 h3 h4
    rcases h3.2 with ⟨_, h0⟩ | ⟨g, cap, cur, rfl, _⟩
    · omega
    · exact ⟨g, cap, rfl, by unfold Mine; rw [bv_append]; exact h3, (h2.alloc h2.size _).grown h4 (by have := h2.size; simp; omega) (fun j hj => (h1.lt j hj).1)⟩
  have FIN := hid fin
  clear fin
  obtain ⟨W1, hW1⟩ : ∃ W, w.alloc (.cells #[] 5) = W := ⟨_, rfl⟩
  rw [hW1] at HS HB0 HO
  rcases hS with ⟨rfl, rfl⟩ | ⟨rfl, ad, cap, rfl⟩ | ⟨b, o, cap, rfl, hB0⟩
  · have H1 := HO
    have HB1 := HB0
    go_enter Tryd.func9, Tryd.ntmps9
    go_wp2_with (first
      | (at_builtin; refine wpList_append_own_none (by rfl) (.tmp 4) (.tmp 5) 22 (by rfl) w.heap.size 5 i0 1 Tryd.underlying22 I0.out _ 0 [] (by rfl) HO.out (by rfl) ?_)
      | (at_builtin; (refine wpList_append_own _ (by rfl) (.tmp 7) (.tmp 8) 22 (by rfl) w.heap.size 5 i0 (.int .u8 0) 1 1 Tryd.underlying22 I0.out I1.out I2.out I3.out rfl (by decide) _ _ _ (by rfl) (H1.out.alloc _) ⟨W1.heap.size, 0, none⟩ 5 5 (bv [1, 2, 3, 4, 5]) (by rfl) rfl (new_cells1 _ _ _ _ rfl) (bv_one _) (by unfold maxLen; first | omega | (simp; omega) | simp) (by first | omega | (simp; omega) | simp) (by have := HB1.out.size; first | omega | (simp; omega) | simp) ?_); intro v2 w2 hown2 hgrow2 _; have H2 := hid hown2; have HG2 := hid hgrow2; clear hown2 hgrow2))
    go_ret
    exact FIN.out _ W1 w2 _ H1.out HB1.out H2.out HG2.out
  · go_enter Tryd.func9, Tryd.ntmps9
    go_wp2_with (first
      | (at_builtin; refine wpList_append_own _ (by rfl) (.tmp 4) (.tmp 5) 22 (by rfl) w.heap.size 5 i0 (.int .u8 0) 1 1 Tryd.underlying22 I0.out I1.out I2.out I3.out rfl (by decide) _ _ _ (by rfl) HO.out ad 0 cap (bv []) (by rfl) (by simp [bv_len]) (fun j u hj => by simp [bv] at hj) (bv_one _) (by unfold maxLen; first | omega | (simp; omega) | simp) (by first | omega | (simp; omega) | simp) (by have := HB0.out.size; omega) ?_; intro v1 w1 hown1 hgrow1 _; have H1 := hid (show w1.ownsRow w.heap.size 5 1 v1 (0) (bv []) from (by simpa using hown1)); have HB1 := hid (show Below w.heap.size w w1 from HB0.out.grown hgrow1 HB0.out.size (fun j hj => (HO.out.lt j hj).1)); clear hown1 hgrow1)
      | (at_builtin; (refine wpList_append_own _ (by rfl) (.tmp 7) (.tmp 8) 22 (by rfl) w.heap.size 5 i0 (.int .u8 0) 1 1 Tryd.underlying22 I0.out I1.out I2.out I3.out rfl (by decide) _ _ _ (by rfl) (H1.out.alloc _) ⟨w1.heap.size, 0, none⟩ 5 5 (bv [1, 2, 3, 4, 5]) (by rfl) rfl (new_cells1 _ _ _ _ rfl) (bv_one _) (by unfold maxLen; first | omega | (simp; omega) | simp) (by first | omega | (simp; omega) | simp) (by have := HB1.out.size; first | omega | (simp; omega) | simp) ?_); intro v2 w2 hown2 hgrow2 _; have H2 := hid hown2; have HG2 := hid hgrow2; clear hown2 hgrow2))
    go_ret
    exact FIN.out _ w1 w2 _ H1.out HB1.out H2.out HG2.out
  · have HBS := hid (bs_to hB0 HB0.out)
    clear hB0
    go_enter Tryd.func9, Tryd.ntmps9
    go_wp2_with (first
      | (at_builtin; refine wpList_append_own _ (by rfl) (.tmp 4) (.tmp 5) 22 (by rfl) w.heap.size 5 i0 (.int .u8 0) 1 1 Tryd.underlying22 I0.out I1.out I2.out I3.out rfl (by decide) _ _ _ (by rfl) HO.out ⟨b, o, none⟩ xs.length cap (bv xs) (by rfl) (by simp [bv_len]) (bs_add HBS.out) (bv_one _) (by unfold maxLen; first | omega | (simp; omega) | simp) (by first | omega | (simp; omega) | simp) (by have := HB0.out.size; omega) ?_; intro v1 w1 hown1 hgrow1 _; have H1 := hid (show w1.ownsRow w.heap.size 5 1 v1 (xs.length) (bv xs) from (by simpa using hown1)); have HB1 := hid (show Below w.heap.size w w1 from HB0.out.grown hgrow1 HB0.out.size (fun j hj => (HO.out.lt j hj).1)); clear hown1 hgrow1)
      | (at_builtin; (refine wpList_append_own _ (by rfl) (.tmp 7) (.tmp 8) 22 (by rfl) w.heap.size 5 i0 (.int .u8 0) 1 1 Tryd.underlying22 I0.out I1.out I2.out I3.out rfl (by decide) _ _ _ (by rfl) (H1.out.alloc _) ⟨w1.heap.size, 0, none⟩ 5 5 (bv [1, 2, 3, 4, 5]) (by rfl) rfl (new_cells1 _ _ _ _ rfl) (bv_one _) (by unfold maxLen; first | omega | (simp; omega) | simp) (by first | omega | (simp; omega) | simp) (by have := HB1.out.size; first | omega | (simp; omega) | simp) ?_); intro v2 w2 hown2 hgrow2 _; have H2 := hid hown2; have HG2 := hid hgrow2; clear hown2 hgrow2))
    go_ret
    exact FIN.out _ w1 w2 _ H1.out HB1.out H2.out HG2.out

set_option maxHeartbeats 1000000 in
set_option maxRecDepth 100000 in
theorem left_any (g cap : Nat) (v : Value) (xs : List Nat) (w0 w : World) (hn : xs.length ≤ 140737488351232) (hM : Mine w0 w g cap (xs.length + 5) (xs ++ [1, 2, 3, 4, 5])) (hS : Sx w v xs) :
    Calls Tryd.prog 12 #[.slice (some ⟨g, 0, none⟩) (xs.length + 5) cap, v] w fun e w' => e = .returned (.bool true) ∧ Below w0.heap.size w w' := by
  have cv1 : (convert 22 9 (.slice (some ⟨g, 0, none⟩) (xs.length + 5) cap)).run Tryd.prog w = .ok (.string (txt (xs ++ [1, 2, 3, 4, 5]))) w :=
    conv_bytes w g 0 cap (xs ++ [1, 2, 3, 4, 5]) (xs.length + 5) (by simp) (fun i hi => by
      have := hM.cells (g := g) rfl i (.int .u8 (((xs ++ [1, 2, 3, 4, 5])[i] : Nat) : Int)) (bv_get _ i hi)
      rw [Addr.add_mid] at this
      exact this)
  have cv2 := conv_sx w v xs hS
  have HM := hid hM
  clear hM hS
  have hsz := txt_size xs
  have hsz2 : ¬ (9223372036854775807 < (txt xs).size + 5) := by omega
  have hq := txt_append xs
  rcases HM.out.2 with ⟨h, _⟩ | ⟨g', cap', cur, h, hbg, hg, hnc, hcm, hcs, _⟩
  · simp at h
  simp only [Value.slice.injEq, Option.some.injEq, Addr.mk.injEq, and_true, true_and] at h
  obtain ⟨rfl, rfl⟩ := h
  have HG := hid hg
  have hcap : cur.size = cap := by omega
  clear hg HM hcs
  go_enter Tryd.func12, Tryd.ntmps12
  go_wp2_with fail
  go_loopw [6] (fun iv wr => ∃ (i : Nat) (cu : Array Value), i ≤ xs.length + 5 ∧ iv = .int .i64 i ∧ cu.size = cap ∧ Hid (wr.heap[g]? = some (.cells cu 5 (0, 0))) ∧ Hid (Below w0.heap.size w wr)) (fun iv _ => xs.length + 5 - (intOf iv).toNat)
  case atStart => exact ⟨0, cur, by omega, rfl, hcap, HG.out, Below.refl _ _⟩
  case round =>
    obtain ⟨i, cu, hi, rfl, hc, HR, HB⟩ := hrel
    by_cases hlt : i < xs.length + 5
    · obtain ⟨y0, hy0⟩ : ∃ y0, wr.cell? ⟨g, i, none⟩ = some y0 := by
        rw [cell_of_row wr g i _ 5 _ HR.out]
        exact ⟨_, Array.getElem?_eq_getElem (by omega)⟩
      have hfz : wr.frozen? ⟨g, i, none⟩ = false := frozen_of_row wr g i _ 5 HR.out
      have i0 : (0 : Int) ≤ (i : Int) := by omega
      have i1 : (i : Int) < (xs.length : Int) + 5 := by omega
      have HN := hid (show (wr.setCell ⟨g, i, none⟩ (.int .u8 238)).heap[g]? = some (.cells (cu.setIfInBounds i (.int .u8 238)) 5 (0, 0)) from heap_setCell_same wr g i _ 5 _ HR.out)
      have HB2 := hid (show Below w0.heap.size w (wr.setCell ⟨g, i, none⟩ (.int .u8 238)) from HB.out.setCell hbg _)
      have hc2 : (cu.setIfInBounds i (.int .u8 238)).size = cap := by simpa using hc
      clear HR HB
      go_wp2
      go_roundw
      case rel => exact ⟨i + 1, _, by omega, by go_num, hc2, HN.out, HB2.out⟩
      case measure => simp [intOf]; omega
    · have hi5 : i = xs.length + 5 := by omega
      subst hi5
      go_wp2
      go_ret
      exact ⟨rfl, HB.out⟩
end Go.Proofs.YthionbjkdpipiaaDoor
