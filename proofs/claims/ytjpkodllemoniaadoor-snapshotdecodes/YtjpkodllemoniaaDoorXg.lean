/-
  Contracts: hand, left.
-/
import Derived.Test.YtjpkodllemoniaaDoorWiM
import Derived.Test.YtjpkodllemoniaaDoorXa
import Derived.Laws.AppendOwnNone
import Derived.Test.YtjpkodllemoniaaDoorDeI2
namespace Go.Proofs.YtjpkodllemoniaaDoor.Wi
open Go.RowKit Go.Deep Go.Proofs.YtjpkodllemoniaaDoor.Crc
set_option linter.unusedVariables false
set_option linter.unusedSimpArgs false
theorem bs_to {w w' : World} {b o : Nat} {xs : List Nat} (h : Bs w b o xs) (hb : Below w.heap.size w w') : Bs w' b o xs := fun i hi => (hb.cell (p := ⟨b, o + i, none⟩) (World.block_lt_of_cell? w _ (h i hi))).trans (h i hi)
theorem bs_add {w : World} {b o : Nat} {xs : List Nat} (h : Bs w b o xs) : ∀ j v, (bv xs)[j]? = some v → w.cell? ((⟨b, o, none⟩ : Addr).add j) = some v := fun j v hj => by
  have hl : j < xs.length := by
    have := (List.getElem?_eq_some_iff.1 hj).1
    simpa [bv_len] using this
  rw [Addr.add_mid, h j hl, ← hj]
  simp [bv, hl]
/-- bytes that came in: none; an empty slice; some. -/
def Sx (w : World) (v : Value) (xs : List Nat) : Prop :=
  (xs = [] ∧ v = .slice none 0 0) ∨ (xs = [] ∧ ∃ ad cap, v = .slice (some ad) 0 cap) ∨ ∃ b o cap, v = .slice (some ⟨b, o, none⟩) xs.length cap ∧ Bs w b o xs
theorem Sx.sl {w : World} {v : Value} {xs : List Nat} (h : Sx w v xs) : Sl w v xs := by
  rcases h with ⟨rfl, rfl⟩ | ⟨rfl, ad, cap, rfl⟩ | h
  · exact Or.inl ⟨rfl, _, _, rfl⟩
  · exact Or.inl ⟨rfl, _, _, rfl⟩
  · exact Or.inr h
theorem Sx.to {w w' : World} {v : Value} {xs : List Nat} (h : Sx w v xs) (hb : Below w.heap.size w w') : Sx w' v xs := by
  rcases h with h | h | ⟨b, o, cap, e, h⟩
  · exact Or.inl h
  · exact Or.inr (Or.inl h)
  · exact Or.inr (Or.inr ⟨b, o, cap, e, bs_to h hb⟩)
theorem conv_sx (w : World) (v : Value) (xs : List Nat) (h : Sx w v xs) : (convert 29 9 v).run Tryd.prog w = .ok (.string (txt xs)) w := by
  rcases h with ⟨rfl, rfl⟩ | ⟨rfl, ad, cap, rfl⟩ | ⟨b, o, cap, rfl, hB⟩
  · rw [run_convert_bytes_nil w 29 5 Tryd.underlying29 Tryd.underlying5 0 0 9 Tryd.underlying9]; rfl
  · rw [run_convert_bytes_string w 29 9 5 _ 0 cap Tryd.underlying29 Tryd.underlying5 Tryd.underlying9, run_bytesToString w ad 0 cap [] (by simpa using run_loadCells_list (P := Tryd.prog) w ad [] (by simp))]
    rfl
  · exact conv_bytes w b o cap xs xs.length rfl hB

theorem new_cells1 (wa : World) (xs : List Nat) (t : TypeId) (n : Nat) (hn : n = wa.heap.size) : ∀ j v, (bv xs)[j]? = some v → (wa.alloc (.cells (bv xs).toArray t)).cell? ((⟨n, 0, none⟩ : Addr).add j) = some v := by
  intro j v h
  rw [Addr.add_mid, World.cell?_alloc_at _ _ _ _ hn, Nat.zero_add]
  simpa using h
theorem bv_get (ys : List Nat) (i : Nat) (hi : i < ys.length) : (bv ys)[i]? = some (.int .u8 ((ys[i] : Nat) : Int)) := by simp [bv, hi]
theorem txt_size (xs : List Nat) : (txt xs).size = xs.length := by
  show (txt xs).data.size = _
  simp [txt, strOfNums]
theorem txt_append (xs : List Nat) : ((txt (xs ++ [1, 2, 3, 4, 5])).toList == (txt xs ++ (⟨#[1, 2, 3, 4, 5]⟩ : ByteArray)).toList) = true := by
  rw [ByteArray.toList_eq, ByteArray.toList_eq, ByteArray.data_append]
  simp [txt, strOfNums]
/-- a slice of one's own with these bytes. -/
def Mine (w0 w : World) (g cap n : Nat) (ys : List Nat) : Prop := w.ownsRow w0.heap.size 5 1 (.slice (some ⟨g, 0, none⟩) n cap) n (bv ys)

set_option maxHeartbeats 8000000 in
set_option maxRecDepth 100000 in
theorem hand_any (v : Value) (xs : List Nat) (w : World) (hn : xs.length ≤ 140737488351232) (hS : Sx w v xs) :
    Calls Tryd.prog 9 #[v] w fun e w' => ∃ g cap, e = .returned (.slice (some ⟨g, 0, none⟩) (xs.length + 5) cap) ∧ Mine w w' g cap (xs.length + 5) (xs ++ [1, 2, 3, 4, 5]) ∧ Below w.heap.size w w' := by
  obtain ⟨i0, hi, hz0, hz1, hz2⟩ := info_parts info5all
  have I0 := hid hi
  have I1 := hid hz0
  have I2 := hid hz1
  have I3 := hid hz2
  clear hi hz0 hz1 hz2
  have HS := hid (hS.to ((Below.refl w.heap.size w).alloc (Nat.le_refl _) (.cells #[] 5)))
  have HB0 := hid (show Below w.heap.size w (w.alloc (.cells #[] 5)) from (Below.refl w.heap.size w).alloc (Nat.le_refl _) _)
  have HO := hid (World.ownsRow_made (base := w.heap.size) (e := 5) (size := 1) w #[] 0 (Nat.le_refl _) (Nat.zero_le _) rfl)
  have fin : ∀ (v1 : Value) (w1 w2 : World) (v2 : Value), w1.ownsRow w.heap.size 5 1 v1 xs.length (bv xs) → Below w.heap.size w w1 → w2.ownsRow w.heap.size 5 1 v2 (xs.length + 5) (bv xs ++ bv [1, 2, 3, 4, 5]) → (w1.alloc (.cells (bv [1, 2, 3, 4, 5]).toArray 5)).grownBy w2 v1.ownBlock →
      ∃ g cap, Ending.returned v2 = .returned (.slice (some ⟨g, 0, none⟩) (xs.length + 5) cap) ∧ Mine w w2 g cap (xs.length + 5) (xs ++ [1, 2, 3, 4, 5]) ∧ Below w.heap.size w w2 := by
    intro v1 w1 w2 v2 h1 h2 h3 h4
    rcases h3.2 with ⟨_, h0⟩ | ⟨g, cap, cur, rfl, _⟩
    · omega
    · exact ⟨g, cap, rfl, by unfold Mine; rw [bv_append]; exact h3, (h2.alloc h2.size _).grown h4 (by have := h2.size; simp; omega) (fun j hj => (h1.lt j hj).1)⟩
  have FIN := hid fin
  clear fin
  obtain ⟨W1, hW1⟩ : ∃ W, w.alloc (.cells #[] 5) = W := ⟨_, rfl⟩
  rw [hW1] at HS HB0 HO
  rcases hS with ⟨rfl, rfl⟩ | ⟨rfl, ad, cap, rfl⟩ | ⟨b, o, cap, rfl, hB0⟩
  · have H1 := HO
    have HB1 := HB0
    go_enter Tryd.func9, Tryd.ntmps9
    go_wp2_with (first
      | (at_builtin; refine wpList_append_own_none (by rfl) (.tmp 4) (.tmp 5) 29 (by rfl) w.heap.size 5 i0 1 Tryd.underlying29 I0.out _ 0 [] (by rfl) HO.out (by rfl) ?_)
      | (at_builtin; (refine wpList_append_own _ (by rfl) (.tmp 7) (.tmp 8) 29 (by rfl) w.heap.size 5 i0 (.int .u8 0) 1 1 Tryd.underlying29 I0.out I1.out I2.out I3.out rfl (by decide) _ _ _ (by rfl) (H1.out.alloc _) ⟨W1.heap.size, 0, none⟩ 5 5 (bv [1, 2, 3, 4, 5]) (by rfl) rfl (new_cells1 _ _ _ _ rfl) (bv_one _) (by unfold maxLen; first | omega | (simp; omega) | simp) (by first | omega | (simp; omega) | simp) (by have := HB1.out.size; first | omega | (simp; omega) | simp) ?_); intro v2 w2 hown2 hgrow2 _; have H2 := hid hown2; have HG2 := hid hgrow2; clear hown2 hgrow2))
    go_ret
    exact FIN.out _ W1 w2 _ H1.out HB1.out H2.out HG2.out
  · go_enter Tryd.func9, Tryd.ntmps9
    go_wp2_with (first
      | (at_builtin; refine wpList_append_own _ (by rfl) (.tmp 4) (.tmp 5) 29 (by rfl) w.heap.size 5 i0 (.int .u8 0) 1 1 Tryd.underlying29 I0.out I1.out I2.out I3.out rfl (by decide) _ _ _ (by rfl) HO.out ad 0 cap (bv []) (by rfl) (by simp [bv_len]) (fun j u hj => by simp [bv] at hj) (bv_one _) (by unfold maxLen; first | omega | (simp; omega) | simp) (by first | omega | (simp; omega) | simp) (by have := HB0.out.size; omega) ?_; intro v1 w1 hown1 hgrow1 _; have H1 := hid (show w1.ownsRow w.heap.size 5 1 v1 (0) (bv []) from (by simpa using hown1)); have HB1 := hid (show Below w.heap.size w w1 from HB0.out.grown hgrow1 HB0.out.size (fun j hj => (HO.out.lt j hj).1)); clear hown1 hgrow1)
      | (at_builtin; (refine wpList_append_own _ (by rfl) (.tmp 7) (.tmp 8) 29 (by rfl) w.heap.size 5 i0 (.int .u8 0) 1 1 Tryd.underlying29 I0.out I1.out I2.out I3.out rfl (by decide) _ _ _ (by rfl) (H1.out.alloc _) ⟨w1.heap.size, 0, none⟩ 5 5 (bv [1, 2, 3, 4, 5]) (by rfl) rfl (new_cells1 _ _ _ _ rfl) (bv_one _) (by unfold maxLen; first | omega | (simp; omega) | simp) (by first | omega | (simp; omega) | simp) (by have := HB1.out.size; first | omega | (simp; omega) | simp) ?_); intro v2 w2 hown2 hgrow2 _; have H2 := hid hown2; have HG2 := hid hgrow2; clear hown2 hgrow2))
    go_ret
    exact FIN.out _ w1 w2 _ H1.out HB1.out H2.out HG2.out
  · have HBS := hid (bs_to hB0 HB0.out)
    clear hB0
    go_enter Tryd.func9, Tryd.ntmps9
    go_wp2_with (first
      | (at_builtin; refine wpList_append_own _ (by rfl) (.tmp 4) (.tmp 5) 29 (by rfl) w.heap.size 5 i0 (.int .u8 0) 1 1 Tryd.underlying29 I0.out I1.out I2.out I3.out rfl (by decide) _ _ _ (by rfl) HO.out ⟨b, o, none⟩ xs.length cap (bv xs) (by rfl) (by simp [bv_len]) (bs_add HBS.out) (bv_one _) (by unfold maxLen; first | omega | (simp; omega) | simp) (by first | omega | (simp; omega) | simp) (by have := HB0.out.size; omega) ?_; intro v1 w1 hown1 hgrow1 _; have H1 := hid (show w1.ownsRow w.heap.size 5 1 v1 (xs.length) (bv xs) from (by simpa using hown1)); have HB1 := hid (show Below w.heap.size w w1 from HB0.out.grown hgrow1 HB0.out.size (fun j hj => (HO.out.lt j hj).1)); clear hown1 hgrow1)
      | (at_builtin; (refine wpList_append_own _ (by rfl) (.tmp 7) (.tmp 8) 29 (by rfl) w.heap.size 5 i0 (.int .u8 0) 1 1 Tryd.underlying29 I0.out I1.out I2.out I3.out rfl (by decide) _ _ _ (by rfl) (H1.out.alloc _) ⟨w1.heap.size, 0, none⟩ 5 5 (bv [1, 2, 3, 4, 5]) (by rfl) rfl (new_cells1 _ _ _ _ rfl) (bv_one _) (by unfold maxLen; first | omega | (simp; omega) | simp) (by first | omega | (simp; omega) | simp) (by have := HB1.out.size; first | omega | (simp; omega) | simp) ?_); intro v2 w2 hown2 hgrow2 _; have H2 := hid hown2; have HG2 := hid hgrow2; clear hown2 hgrow2))
    go_ret
    exact FIN.out _ w1 w2 _ H1.out HB1.out H2.out HG2.out

set_option maxHeartbeats 8000000 in
set_option maxRecDepth 100000 in
theorem left_any (g cap : Nat) (v : Value) (xs : List Nat) (w0 w : World) (hn : xs.length ≤ 140737488351232) (hM : Mine w0 w g cap (xs.length + 5) (xs ++ [1, 2, 3, 4, 5])) (hS : Sx w v xs) :
    Calls Tryd.prog 12 #[.slice (some ⟨g, 0, none⟩) (xs.length + 5) cap, v] w fun e w' => e = .returned (.bool true) ∧ Cp.Kp (fun j => j = g) w w' := by
  have cv1 : (convert 29 9 (.slice (some ⟨g, 0, none⟩) (xs.length + 5) cap)).run Tryd.prog w = .ok (.string (txt (xs ++ [1, 2, 3, 4, 5]))) w :=
    conv_bytes w g 0 cap (xs ++ [1, 2, 3, 4, 5]) (xs.length + 5) (by simp) (fun i hi => by
      have := hM.cells (g := g) rfl i (.int .u8 (((xs ++ [1, 2, 3, 4, 5])[i] : Nat) : Int)) (bv_get _ i hi)
      rw [Addr.add_mid] at this
      exact this)
  have cv2 := conv_sx w v xs hS
  have HM := hid hM
  clear hM hS
  have hsz := txt_size xs
  have hsz2 : ¬ (9223372036854775807 < (txt xs).size + 5) := by omega
  have hq := txt_append xs
  rcases HM.out.2 with ⟨h, _⟩ | ⟨g', cap', cur, h, hbg, hg, hnc, hcm, hcs, _⟩
  · simp at h
  simp only [Value.slice.injEq, Option.some.injEq, Addr.mk.injEq, and_true, true_and] at h
  obtain ⟨rfl, rfl⟩ := h
  have HG := hid hg
  have hcap : cur.size = cap := by omega
  clear hg HM hcs
  go_enter Tryd.func12, Tryd.ntmps12
  go_wp2_with fail
  go_loopw [6] (fun iv wr => ∃ (i : Nat) (cu : Array Value), i ≤ xs.length + 5 ∧ iv = .int .i64 i ∧ cu.size = cap ∧ Hid (wr.heap[g]? = some (.cells cu 5 (0, 0))) ∧ Hid (Cp.Kp (fun j => j = g) w wr)) (fun iv _ => xs.length + 5 - (intOf iv).toNat)
  case atStart => exact ⟨0, cur, by omega, rfl, hcap, HG.out, Cp.Kp.refl _ _⟩
  case round =>
    obtain ⟨i, cu, hi, rfl, hc, HR, HB⟩ := hrel
    by_cases hlt : i < xs.length + 5
    · obtain ⟨y0, hy0⟩ : ∃ y0, wr.cell? ⟨g, i, none⟩ = some y0 := by
        rw [cell_of_row wr g i _ 5 _ HR.out]
        exact ⟨_, Array.getElem?_eq_getElem (by omega)⟩
      have hfz : wr.frozen? ⟨g, i, none⟩ = false := frozen_of_row wr g i _ 5 HR.out
      have i0 : (0 : Int) ≤ (i : Int) := by omega
      have i1 : (i : Int) < (xs.length : Int) + 5 := by omega
      have HN := hid (show (wr.setCell ⟨g, i, none⟩ (.int .u8 238)).heap[g]? = some (.cells (cu.setIfInBounds i (.int .u8 238)) 5 (0, 0)) from heap_setCell_same wr g i _ 5 _ HR.out)
      have HB2 := hid (show Cp.Kp (fun j => j = g) w (wr.setCell ⟨g, i, none⟩ (.int .u8 238)) from HB.out.trans (Cp.Kp.set wr g i _) (fun _ _ h => h))
      have hc2 : (cu.setIfInBounds i (.int .u8 238)).size = cap := by simpa using hc
      clear HR HB
      go_wp2
      go_roundw
      case rel => exact ⟨i + 1, _, by omega, by go_num, hc2, HN.out, HB2.out⟩
      case measure => simp [intOf]; omega
    · have hi5 : i = xs.length + 5 := by omega
      subst hi5
      go_wp2
      go_ret
      exact ⟨rfl, HB.out⟩
end Go.Proofs.YtjpkodllemoniaaDoor.Wi
namespace Go.Proofs.YtjpkodllemoniaaDoor.Wi
open Go.RowKit Go.Deep Go.Proofs.YtjpkodllemoniaaDoor.Crc
open Go.Proofs.YtjpkodllemoniaaDoor.Cp (btr Or Osz orow ors ors_len)
open Go.Proofs.YtjpkodllemoniaaDoor.Sr (RtW BoOk Rz)
set_option linter.unusedVariables false
set_option linter.unusedSimpArgs false
/-- bytes that are handed in. -/
structure InB (U : World) (g cap : Nat) (xs : List Nat) : Prop where
  bs : Bs U g 0 xs
  room : xs.length < cap
  lt : cap < 9223372036854775808
  row5 : ∃ cur fz, U.heap[g]? = some (.cells cur 5 fz)
  laid : Laid U
/-- a slice's length is not above its room. -/
def Nc (v : Value) : Prop := ∀ p n c, v = .slice p n c → n ≤ c
def Bad (xs : List Nat) (A E : Int) : Prop :=
  (∀ U g cap, InB U g cap xs → Calls Tryd.prog 10 #[.slice (some ⟨g, 0, none⟩) xs.length cap] U fun e w' => e = .returned (.tuple #[.agg zb, .int .i64 A, .int .i64 E]) ∧ Below U.heap.size U w') ∧
  (∀ U v, Sx U v xs → Nc v → Calls Tryd.prog 11 #[v] U fun e w' => e = .returned (.tuple #[.agg zb, .int .i64 A, .int .i64 E]) ∧ Below U.heap.size U w')
def Good (xs : List Nat) : Prop := ∃ (cv mv hv sv nb ns : Nat) (x y : List Or), x.length = nb ∧ y.length = ns ∧ nb < 65536 ∧ ns < 65536 ∧
  (∀ U g cap, InB U g cap xs → Calls Tryd.prog 10 #[.slice (some ⟨g, 0, none⟩) xs.length cap] U fun e w' => ∃ G1 G2, e = .returned (.tuple #[.agg #[.int .i64 cv, .int .i64 mv, .slice (some ⟨G1, 0, none⟩) nb nb, .slice (some ⟨G2, 0, none⟩) ns ns, .int .u64 hv, .int .u64 sv], .int .i64 0, .int .i64 0]) ∧ Osz w' (some ⟨G1, 0, none⟩) x ∧ Osz w' (some ⟨G2, 0, none⟩) y ∧ U.heap.size ≤ G1 ∧ U.heap.size ≤ G2 ∧ Below U.heap.size U w') ∧
  (∀ U v, Sx U v xs → Nc v → Calls Tryd.prog 11 #[v] U fun e w' => ∃ p1 c1 p2 c2, e = .returned (.tuple #[.agg #[.int .i64 cv, .int .i64 mv, .slice p1 nb c1, .slice p2 ns c2, .int .u64 hv, .int .u64 sv], .int .i64 0, .int .i64 0]) ∧ w'.ownsRow U.heap.size 46 7 (.slice p1 nb c1) nb (ors x) ∧ w'.ownsRow U.heap.size 46 7 (.slice p2 ns c2) ns (ors y) ∧ Below U.heap.size U w')
theorem sx_some {U : World} {v : Value} {xs : List Nat} (h : Sx U v xs) (hn : 0 < xs.length) : ∃ b o cap, v = .slice (some ⟨b, o, none⟩) xs.length cap ∧ Bs U b o xs := by
  rcases h with ⟨rfl, _⟩ | ⟨rfl, _⟩ | h
  · simp at hn
  · simp at hn
  · exact h
theorem both (xs : List Nat) (hx : Oct xs) (hn : xs.length ≤ 140737488351232) : (∃ A E, Bad xs A E) ∨ Good xs := by
  obtain ⟨n, hl⟩ : ∃ n, xs.length = n := ⟨_, rfl⟩
  rw [hl] at hn
  rcases mgs_or xs (min n 8) with ⟨q, hq, hm, hno⟩ | hm
  · refine .inl ⟨q, 22, ?_, ?_⟩
    · intro U g cap h
      rw [hl]
      exact dec_begin g 0 n cap q 22 (by decide) U (hid fun V hV => begin_no xs g 0 cap n q V (bs_to h.bs hV) hl (by omega) (by omega) (by omega) hm hno)
    · intro U v h _
      obtain ⟨b, o, cap, rfl, hB⟩ := sx_some h (by omega)
      rw [hl]
      exact rdec_magic xs b o cap n q U hB hl (by omega) (by omega) hm hno
  have hm' : ∀ j, j < n → j < 8 → mgs xs j := fun j h1 h2 => hm j (by omega)
  by_cases h31 : n < 31
  · refine .inl ⟨n, 20, ?_, ?_⟩
    · intro U g cap h
      rw [hl]
      exact dec_begin g 0 n cap n 20 (by decide) U (hid fun V hV => begin_yes xs g 0 cap n V (bs_to h.bs hV) hl (by omega) hm' n 20 (.inl ⟨h31, rfl, rfl⟩))
    · intro U v h _
      rcases h with ⟨rfl, rfl⟩ | ⟨rfl, ad, cap, rfl⟩ | ⟨b, o, cap, rfl, hB⟩
      · simp at hl
        subst hl
        exact rdec_empty _ _ _
      · simp at hl
        subst hl
        exact rdec_empty _ _ _
      · rw [hl]
        by_cases h8 : n < 8
        · exact rdec_short xs b o cap n U hB hl h8 (fun j hj => hm' j hj (by omega))
        · exact rdec_head xs b o cap n U hx hB hl (by omega) (by omega) (fun j hj => hm' j (by omega) hj) h31
  obtain ⟨nb, hnb⟩ : ∃ z, nat' xs 27 2 = z := ⟨_, rfl⟩
  obtain ⟨ns, hns⟩ : ∃ z, nat' xs 29 2 = z := ⟨_, rfl⟩
  obtain ⟨D, hD⟩ : ∃ z, 31 + 29 * (nb + ns) = z := ⟨_, rfl⟩
  have lb : nb < 65536 := by rw [← hnb]; exact nat_lt hx 27 2
  have ls : ns < 65536 := by rw [← hns]; exact nat_lt hx 29 2
  have m8 : ∀ j, j < 8 → mgs xs j := fun j hj => hm' j (by omega) hj
  have CB : ∀ U g cap, InB U g cap xs → Hid (∀ V, Below U.heap.size U V → Calls Tryd.prog 23 #[.slice (some ⟨g, 0, none⟩) n cap] V fun e w' => e = .returned (.tuple #[.int .i64 0, .int .i64 0]) ∧ Below V.heap.size V w') := fun U g cap h => hid fun V hV => begin_yes xs g 0 cap n V (bs_to h.bs hV) hl (by omega) hm' 0 0 (.inr ⟨by omega, rfl, rfl⟩)
  have CE : ∀ A E, Enz xs n D A E → ∀ U g cap, InB U g cap xs → Hid (∀ V, Below U.heap.size U V → Calls Tryd.prog 25 #[.slice (some ⟨g, 0, none⟩) n cap, .int .i64 D] V fun e w' => e = .returned (.tuple #[.int .i64 A, .int .i64 E]) ∧ Below V.heap.size V w') := fun A E hE U g cap h => hid fun V hV => end_any xs g 0 cap n D A E V hx (bs_to h.bs hV) hl (by omega) (by have := h.room; omega) (by omega) (h.laid.on hV) hE
  have PB : ∀ A E, E ≠ 0 → Enz xs n D A E → ∀ U g cap, InB U g cap xs → Calls Tryd.prog 10 #[.slice (some ⟨g, 0, none⟩) xs.length cap] U fun e w' => e = .returned (.tuple #[.agg zb, .int .i64 A, .int .i64 E]) ∧ Below U.heap.size U w' := fun A E h0 hE U g cap h => by
    rw [hl]
    exact dec_end xs g 0 n cap nb ns D U hx h.bs hl (by omega) (by have := h.room; omega) h.lt h.row5 hnb hns hD (CB U g cap h) A E h0 (CE A E hE U g cap h)
  by_cases h1 : n < D + 4
  · refine .inl ⟨n, 20, PB n 20 (by decide) (.inl ⟨h1, rfl, rfl⟩), ?_⟩
    intro U v h _
    obtain ⟨b, o, cap, rfl, hB⟩ := sx_some h (by omega)
    rw [hl]
    exact rdec_less xs b o cap n U hx hB hl (by omega) (by omega) m8 nb ns D (by omega) hnb hns hD h1
  by_cases h2 : D + 4 < n
  · refine .inl ⟨(D : Int) + 4, 2, PB _ 2 (by decide) (.inr (.inl ⟨h2, rfl, rfl⟩)), ?_⟩
    intro U v h _
    obtain ⟨b, o, cap, rfl, hB⟩ := sx_some h (by omega)
    rw [hl]
    exact rdec_more xs b o cap n U hx hB hl (by omega) (by omega) m8 nb ns D (by omega) hnb hns hD h2
  have e : n = D + 4 := by omega
  by_cases h3 : nat' xs D 4 = crc (xs.take D)
  · have CE0 := CE 0 0 (.inr (.inr (.inr ⟨e, h3, rfl, rfl⟩)))
    by_cases hk : Bkok xs
    · refine .inr ⟨nat' xs 8 2, nat' xs 10 1, nat' xs 11 8, nat' xs 19 8, nb, ns, rdos xs 31 nb, rdos xs (31 + 29 * nb) ns, rdos_len _ _ _, rdos_len _ _ _, lb, ls, ?_, ?_⟩
      · intro U g cap h
        rw [hl]
        exact dec_yes xs g 0 n cap nb ns D U hx h.bs hl (by omega) (by have := h.room; omega) h.lt h.row5 hnb hns hD (CB U g cap h) e (CE0 U g cap h) hk
      · intro U v h hc
        obtain ⟨b, o, cap, rfl, hB⟩ := sx_some h (by omega)
        have hc' := hc _ _ _ rfl
        rw [hl] at hc' ⊢
        exact rdec_yes xs b o cap n U hx hB hl (by omega) (by omega) m8 nb ns D (by omega) hnb hns hD e hc' h3 hk
    · refine .inl ⟨0, 120, ?_, ?_⟩
      · intro U g cap h
        rw [hl]
        exact dec_no xs g 0 n cap nb ns D U hx h.bs hl (by omega) (by have := h.room; omega) h.lt h.row5 hnb hns hD (CB U g cap h) e (CE0 U g cap h) hk
      · intro U v h hc
        obtain ⟨b, o, cap, rfl, hB⟩ := sx_some h (by omega)
        have hc' := hc _ _ _ rfl
        rw [hl] at hc' ⊢
        exact rdec_no xs b o cap n U hx hB hl (by omega) (by omega) m8 nb ns D (by omega) hnb hns hD e hc' h3 hk
  · refine .inl ⟨D, 21, PB D 21 (by decide) (.inr (.inr (.inl ⟨e, h3, rfl, rfl⟩))), ?_⟩
    intro U v h hc
    obtain ⟨b, o, cap, rfl, hB⟩ := sx_some h (by omega)
    have hc' := hc _ _ _ rfl
    rw [hl] at hc' ⊢
    exact rdec_sum xs b o cap n U hx hB hl (by omega) (by omega) m8 nb ns D (by omega) hnb hns hD e hc' h3
end Go.Proofs.YtjpkodllemoniaaDoor.Wi
