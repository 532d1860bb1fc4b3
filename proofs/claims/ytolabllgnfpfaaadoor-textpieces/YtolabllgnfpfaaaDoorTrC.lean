/-
  feet, Feed of a reader of lines.
-/
import Derived.Test.YtolabllgnfpfaaaDoorTrB
import Derived.Test.YtolabllgnfpfaaaDoorTyP
namespace Go.Proofs.YtolabllgnfpfaaaDoor
open Go.RowKit Go.Deep Go.Lib Go.Shelf Go.Sort
set_option linter.unusedVariables false
set_option linter.unusedSimpArgs false

theorem byte_is {l : List UInt8} {i : Nat} (hi : i < l.length) (c : UInt8) : l[i]? = some c ↔ (l[i].toNat : Int) = (c.toNat : Int) := by
  rw [List.getElem?_eq_getElem hi]
  constructor
  · intro h
    have : l[i] = c := by simpa using h
    rw [this]
  · intro h
    have h1 : l[i].toNat = c.toNat := by omega
    have : l[i] = c := UInt8.toNat_inj.1 h1
    rw [this]

set_option maxHeartbeats 4000000 in
set_option maxRecDepth 100000 in
/-- text.feet. -/
theorem feet_any (l : List UInt8) (q : Option Addr) (cap : Nat) (w : World) (hl : l.length < 4611686018427387904) (hS : Sb w q l) :
    Calls Tryd.prog 19 #[.slice q l.length cap] w fun e w' => e = .returned (.int .i64 (ftN l : Nat)) ∧ w' = w := by
  have HS := hid hS
  clear hS
  go_enter Tryd.func19, Tryd.ntmps19
  go_wp2_with fail
  go_loopw [6] (fun iv wr => ∃ i : Nat, i ≤ l.length ∧ iv = .int .i64 i ∧ wr = w ∧ Hid (∀ j, j < i → ¬ FootAt l j)) (fun iv _ => l.length - (RowKit.intOf iv).toNat)
  case atStart => exact ⟨0, Nat.zero_le _, rfl, rfl, hid (fun j hj => by omega)⟩
  case round =>
    obtain ⟨i, hi, rfl, hw, HN⟩ := hrel
    subst hw
    by_cases hlt : i < l.length
    · have i1 : (i : Int) < (l.length : Int) := by omega
      have i0 : (0 : Int) ≤ (i : Int) := by omega
      have HST := hid (show ¬ FootAt l i → ∀ j, j < i + 1 → ¬ FootAt l j from fun h j hj => by
        by_cases e : j = i
        · subst e; exact h
        · exact HN.out j (by omega))
      by_cases hz : i = 0
      · have hz1 : ((i : Int) == 0) = true := by simp; omega
        have HNX := hid (HST.out (fun h => by have := h.1; omega))
        clear hz HST
        go_wp2
        go_roundw
        case rel => exact ⟨i + 1, by omega, by go_num, by first | rfl | trivial, HNX⟩
        case measure => simp [RowKit.intOf]; omega
      · have hz1 : ((i : Int) == 0) = false := by simp; omega
        obtain ⟨b, o, rfl, c0⟩ := HS.out i hlt
        have B8 := byte_is hlt 56
        obtain ⟨X, hX⟩ : ∃ x : Int, (l[i].toNat : Int) = x := ⟨_, rfl⟩
        rw [hX] at c0 B8
        clear hX
        by_cases h8 : X = 56
        · subst h8
          by_cases he : i + 1 = l.length
          · have e1 : ((i : Int) == (l.length : Int) - 1) = true := by simp; omega
            have HR := hid (ftN_at l i hlt HN.out ⟨by omega, B8.2 rfl, Or.inl he⟩)
            clear B8 HST he
            go_wp2
            go_ret
            exact ⟨by rw [HR.out]; first | rfl | simp, by first | rfl | trivial⟩
          · have e1 : ((i : Int) == (l.length : Int) - 1) = false := by simp; omega
            have hn : i + 1 < l.length := by omega
            have i2 : (i : Int) + 1 < (l.length : Int) := by omega
            have i3 : (0 : Int) ≤ (i : Int) + 1 := by omega
            obtain ⟨b', o', e, c1⟩ := HS.out (i + 1) hn
            obtain ⟨rfl, rfl⟩ : b = b' ∧ o = o' := by simpa using e
            have N6 := byte_is hn 61
            obtain ⟨Y, hY⟩ : ∃ x : Int, (l[i + 1].toNat : Int) = x := ⟨_, rfl⟩
            rw [hY] at c1 N6
            have c2 : wr.cell? ⟨b, o + ((i : Int) + 1).toNat, none⟩ = some (.int .u8 Y) := by rw [show ((i : Int) + 1).toNat = i + 1 by omega]; exact c1
            clear hY e
            by_cases h6 : Y = 61
            · subst h6
              have HR := hid (ftN_at l i hlt HN.out ⟨by omega, B8.2 rfl, Or.inr (N6.2 rfl)⟩)
              clear B8 N6 HST he
              go_wp2
              go_ret
              exact ⟨by rw [HR.out]; first | rfl | simp, by first | rfl | trivial⟩
            · have h6n : (Y == 61) = false := by simpa using h6
              have HNX := hid (HST.out (fun h => by
                rcases h.2.2 with h | h
                · exact he h
                · exact h6 (N6.1 h)))
              clear B8 N6 HST he h6
              go_wp2
              go_roundw
              case rel => exact ⟨i + 1, by omega, by go_num, by first | rfl | trivial, HNX⟩
              case measure => simp [RowKit.intOf]; omega
        · have h8n : (X != 56) = true := by simpa using h8
          have HNX := hid (HST.out (fun h => h8 (B8.1 h.2.1)))
          clear B8 HST h8
          go_wp2
          go_roundw
          case rel => exact ⟨i + 1, by omega, by go_num, by first | rfl | trivial, HNX⟩
          case measure => simp [RowKit.intOf]; omega
    · have hie : i = l.length := by omega
      have HR := hid (ftN_end l (fun j hj => HN.out j (by omega)))
      have i1 : ¬ (i : Int) < (l.length : Int) := by omega
      clear HN
      go_wp2
      go_ret
      exact ⟨by rw [HR.out]; first | rfl | simp, by first | rfl | trivial⟩

set_option maxHeartbeats 1000000 in
set_option maxRecDepth 100000 in
theorem rfeed_long (base : Nat) (w : World) (R : Nat) (ys : List UInt8) (q : Option Addr) (n c : Nat) (hv : Value) (h : RdG base w R ys hv) (hy : ys.length ≤ 65536) (hn : 65536 < ys.length + n) (hm : n < 9223372036854775808) :
    Calls Tryd.prog 8 #[.pointer (some ⟨R, 0, none⟩), .slice q n c] w fun e w' => e = .returned (.int .i64 2) ∧ w' = w := by
  obtain ⟨h0, ho, h1, h2⟩ := h
  obtain ⟨p, c', rfl⟩ := h2.form
  have hc : w.cell? ⟨R, 0, none⟩ = some (.slice p ys.length c') := by rw [cell_of_row w R 0 _ _ _ h1]; rfl
  have g1 : (65536 : Int) - (ys.length : Int) < (n : Int) := by omega
  clear h1 h2
  go_enter Tryd.func8, Tryd.ntmps8
  go_wp2
  go_ret
  exact ⟨rfl, rfl⟩
set_option maxHeartbeats 1000000 in
set_option maxRecDepth 100000 in
theorem rfeedG (base : Nat) (w : World) (R : Nat) (ys xs : List UInt8) (ad : Addr) (c : Nat) (hv : Value) (h : RdG base w R ys hv) (hx : Oct xs) (hc : ∀ j u, (bv xs)[j]? = some u → w.cell? (ad.add j) = some u) (hn : ys.length + xs.length ≤ 65536) :
    Calls Tryd.prog 8 #[.pointer (some ⟨R, 0, none⟩), .slice (some ad) xs.length c] w fun e w' => e = .returned (.int .i64 0) ∧ (∃ hv', RdG base w' R (ys ++ xs) hv' ∧ (hv'.ownBlock = hv.ownBlock ∨ ∀ g, hv'.ownBlock = some g → w.heap.size ≤ g)) ∧ Below base w w' ∧ w.heap.size ≤ w'.heap.size ∧ ∀ b, b < w.heap.size → ¬ b = R → ¬ hv.ownBlock = some b → w'.heap[b]? = w.heap[b]? := by
  obtain ⟨i0, hi, hz0, hz1, hz2⟩ := info_parts info5all
  have I0 := hid hi
  have I1 := hid hz0
  have I2 := hid hz1
  have I3 := hid hz2
  clear hi hz0 hz1 hz2
  obtain ⟨h0, ho, h1, h2⟩ := h
  have hR : R < w.heap.size := (Array.getElem?_eq_some_iff.1 h1).1
  have HC := hid hc
  have HO := hid (show Oct (ys ++ xs) from trivial)
  have g1 : ¬ ((65536 : Int) - (ys.length : Int) < (xs.length : Int)) := by omega
  clear hc ho hx
  have fin : ∀ (w' : World) (v' : Value), w'.heap[R]? = some (.cells #[hv] 51 (0, 0)) → Held w' base v' (ys ++ xs) → RdG base (w'.setCell ⟨R, 0, none⟩ v') R (ys ++ xs) v' := fun w' v' q1 q2 => RdG.put _ h0 q1 HO.out _ q2
  have FIN := hid fin
  have hlv : w.cell? ⟨R, 0, none⟩ = some hv := by rw [cell_of_row w R 0 _ _ _ h1]; rfl
  have H1 := hid h1
  clear fin h1
  rcases h2 with ⟨rfl, rfl⟩ | ⟨g, o, cap, cur, rfl, hbg, hg, r1, r2, r3, hB⟩
  · go_enter Tryd.func8, Tryd.ntmps8
    go_wp2_with (first
      | (at_builtin; go_loud (refine wpList_append_own _ (by rfl) (.tmp 18) (.tmp 19) 26 (by rfl) w.heap.size 5 i0 (.int .u8 0) 1 1 Tryd.underlying26 I0.out I1.out I2.out I3.out rfl (by decide) _ 0 [] (by rfl) (World.ownsRow_nil w _ 5 1) ad xs.length c (bv xs) (by rfl) (by simp [bv_len]) HC.out (bv_one _) (by simp at hn; unfold maxLen; omega) (by simp at hn; omega) (by omega) ?_; intro v1 w1 hown1 hgrow1 _; have HG := hid hgrow1; have HNEW0 := hid (own_new hown1); have HH := hid (held_owns (base := base) (zs := [] ++ xs) (owns_low (base := w.heap.size) (by simpa using hown1) (by omega)) (by simp)); obtain ⟨p1, c1, hv1⟩ : ∃ p c, v1 = .slice p xs.length c := (by obtain ⟨p, c, h⟩ := HH.out.form; exact ⟨p, c, (by rw [h]; simp)⟩); rw [hv1] at HH; clear hown1 hgrow1; subst hv1; have HNEW := HNEW0; have HR1 := hid (show w1.heap[R]? = some (.cells #[.slice none 0 0] 51 (0, 0)) from (HG.out.block R hR (by simp [Value.ownBlock])).trans H1.out); have hc1 : w1.cell? ⟨R, 0, none⟩ = some (.slice none 0 0) := (by rw [cell_of_row w1 R 0 _ _ _ HR1.out]; rfl); have hf1 : w1.frozen? ⟨R, 0, none⟩ = false := frozen_of_row w1 R 0 _ _ HR1.out)))
    go_ret
    exact ⟨rfl, ⟨_, FIN.out _ _ HR1.out HH.out, Or.inr HNEW.out⟩, ((Below.refl base w).grown HG.out (by omega) (by simp [Value.ownBlock])).setCell h0 _, by simpa using HG.out.size, fun b hbl hbR _ => (heap_setCell_other _ _ _ _ hbR).trans (HG.out.block b hbl (by simp [Value.ownBlock]))⟩
  · have HG0 := hid hg
    have HB := hid hB
    have hne : ¬ R = g := by
      intro e2
      rw [← e2, H1.out] at hg
      simp at hg
    clear hg hB
    go_enter Tryd.func8, Tryd.ntmps8
    go_wp2_with (first
      | (at_builtin; refine wpList_append_arg _ (by rfl) (.tmp 18) (.tmp 19) 26 (by rfl) 5 i0 (.int .u8 0) 1 1 Tryd.underlying26 I0.out I1.out I2.out I3.out rfl (by decide) g o ys.length cap (bv ys) (by rfl) (by simp [bv_len]) ?_ ad xs.length c (bv xs) (by rfl) (by simp [bv_len]) HC.out (bv_one _) ?_ (by unfold maxLen; omega) (by omega) ?_ ?_))
    · intro j u hj
      have hj' : j < ys.length := by
        have := (List.getElem?_eq_some_iff.1 hj).1
        simpa [bv_len] using this
      rw [bv_get _ j hj'] at hj
      rw [← hj]
      exact HB.out j hj'
    · intro hr j hj
      rw [bv_len] at hj
      refine ⟨?_, frozen_of_row w g _ _ _ HG0.out⟩
      rw [cell_of_row w g _ _ _ _ HG0.out, Array.getElem?_eq_getElem (by omega)]
      rfl
    · intro hr
      obtain ⟨cur', hcur, hsz⟩ := setCells_heap g 5 (bv xs) (o + ys.length) w cur HG0.out
      have HH := hid (show Held (w.setCells g (o + ys.length) (bv xs)) base (.slice (some ⟨g, o, none⟩) (ys.length + xs.length) cap) (ys ++ xs) from Or.inr ⟨g, o, cap, cur', by simp, hbg, hcur, by omega, by simp; omega, r3, by
        intro i hi
        by_cases hiy : i < ys.length
        · rw [World.cell?_setCells_out _ _ _ _ _ (fun _ _ => Or.inl (by show o + i < o + ys.length; omega))]
          rw [List.getElem_append_left hiy]
          exact HB.out i hiy
        · obtain ⟨k, rfl⟩ : ∃ k, i = ys.length + k := ⟨i - ys.length, by omega⟩
          have hk : k < xs.length := by simp at hi; omega
          have h3 := World.cell?_setCells_in g (bv xs) (o + ys.length) w (fun j hj => by
            rw [bv_len] at hj
            rw [cell_of_row w g _ _ _ _ HG0.out, Array.getElem?_eq_getElem (by omega)]
            rfl) k (by rw [bv_len]; exact hk)
          rw [← Nat.add_assoc, h3]
          simp [bv, byteCells]⟩)
      have HR1 := hid (show (w.setCells g (o + ys.length) (bv xs)).heap[R]? = some (.cells #[.slice (some ⟨g, o, none⟩) ys.length cap] 51 (0, 0)) from (setCells_other g R hne _ _ _).trans H1.out)
      have HOT := hid (fun b (hb : ¬ b = g) => setCells_other g b hb (bv xs) (o + ys.length) w)
      have HSZ := hid (show w.heap.size ≤ (w.setCells g (o + ys.length) (bv xs)).heap.size from (below_setCells hbg (bv xs) (o + ys.length) w (Below.refl base w)).size)
      have HBE := hid (below_setCells hbg (bv xs) (o + ys.length) w (Below.refl base w))
      obtain ⟨W1, hW1⟩ : ∃ W, w.setCells g (o + ys.length) (bv xs) = W := ⟨_, rfl⟩
      rw [hW1] at HH HR1 HBE hcur HOT HSZ ⊢
      have hc1 : W1.cell? ⟨R, 0, none⟩ = some (.slice (some ⟨g, o, none⟩) ys.length cap) := by rw [cell_of_row W1 R 0 _ _ _ HR1.out]; rfl
      have hf1 : W1.frozen? ⟨R, 0, none⟩ = false := frozen_of_row W1 R 0 _ _ HR1.out
      clear hlv hcur
      go_wp2
      go_ret
      exact ⟨rfl, ⟨_, FIN.out _ _ HR1.out HH.out, Or.inl rfl⟩, HBE.out.setCell h0 _, by simpa using HSZ.out, fun b hbl hbR hbg => (heap_setCell_other _ _ _ _ hbR).trans (HOT.out b (fun e => hbg (by rw [e]; rfl)))⟩
    · intro hr v1 w1 hown1 hgrow1
      have HG := hid hgrow1
      have HNEW := hid (own_new hown1)
      have HH := hid (held_owns (w := w1) (v := v1) (n := ys.length + xs.length) (zs := ys ++ xs) (base := base) (by rw [bv_append]; exact owns_low hown1 (by omega)) (by simp))
      obtain ⟨p1, c1, hv1⟩ : ∃ p c, v1 = .slice p (ys.length + xs.length) c := by obtain ⟨p, c, h⟩ := HH.out.form; exact ⟨p, c, by rw [h]; simp⟩
      rw [hv1] at HH
      clear hown1 hgrow1
      subst hv1
      have HR1 := hid (show w1.heap[R]? = some (.cells #[.slice (some ⟨g, o, none⟩) ys.length cap] 51 (0, 0)) from (HG.out.block R hR (by simp)).trans H1.out)
      have hc1 : w1.cell? ⟨R, 0, none⟩ = some (.slice (some ⟨g, o, none⟩) ys.length cap) := by rw [cell_of_row w1 R 0 _ _ _ HR1.out]; rfl
      have hf1 : w1.frozen? ⟨R, 0, none⟩ = false := frozen_of_row w1 R 0 _ _ HR1.out
      clear hlv
      go_wp2
      go_ret
      exact ⟨rfl, ⟨_, FIN.out _ _ HR1.out HH.out, Or.inr HNEW.out⟩, ((Below.refl base w).grown HG.out (by omega) (by simp)).setCell h0 _, by simpa using HG.out.size, fun b hbl hbR _ => (heap_setCell_other _ _ _ _ hbR).trans (HG.out.block b hbl (by simp))⟩

end Go.Proofs.YtolabllgnfpfaaaDoor
