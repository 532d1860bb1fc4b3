/-
  Readers: Feed.
-/
import Derived.Test.YtffgcdhhjboppaaDoorRdA
namespace Go.Proofs.YtffgcdhhjboppaaDoor
open Go.RowKit Go.Deep Crc
set_option linter.unusedVariables false
set_option linter.unusedSimpArgs false

theorem setCells_heap (b : Nat) (t : TypeId) : ∀ (vs : List Value) (o : Nat) (w : World) (cur : Array Value), w.heap[b]? = some (.cells cur t (0, 0)) → ∃ cur', (w.setCells b o vs).heap[b]? = some (.cells cur' t (0, 0)) ∧ cur'.size = cur.size
  | [], _, w, cur, h => ⟨cur, h, rfl⟩
  | v :: vs, o, w, cur, h => by
    obtain ⟨c, h1, h2⟩ := setCells_heap b t vs (o + 1) (w.setCell ⟨b, o, none⟩ v) _ (heap_setCell_same w b o _ t v h)
    exact ⟨c, h1, by rw [h2]; simp⟩
theorem setCells_other (b b' : Nat) (hb : ¬ b' = b) : ∀ (vs : List Value) (o : Nat) (w : World), (w.setCells b o vs).heap[b']? = w.heap[b']?
  | [], _, w => rfl
  | v :: vs, o, w => (setCells_other b b' hb vs (o + 1) _).trans (heap_setCell_other _ _ _ _ hb)
theorem below_setCells {base b : Nat} (hb : base ≤ b) {w0 : World} : ∀ (vs : List Value) (o : Nat) (w : World), Below base w0 w → Below base w0 (w.setCells b o vs)
  | [], _, w, h => h
  | v :: vs, o, w, h => below_setCells hb vs (o + 1) _ (h.setCell hb _)
theorem owns_low {base base' : Nat} {w : World} {e : TypeId} {size : Nat} {v : Value} {n : Nat} {xs : List Value} (h : w.ownsRow base e size v n xs) (hb : base' ≤ base) : w.ownsRow base' e size v n xs :=
  ⟨h.1, h.2.imp id fun ⟨g, cap, cur, e1, e2, r⟩ => ⟨g, cap, cur, e1, Nat.le_trans hb e2, r⟩⟩
theorem oct_app {xs ys : List Nat} (hx : Oct xs) (hy : Oct ys) : Oct (xs ++ ys) := fun x h => (List.mem_append.1 h).elim (hx x) (hy x)
theorem held_owns {base : Nat} {w : World} {v : Value} {n : Nat} {zs : List Nat} (h : w.ownsRow base 5 1 v n (bv zs)) (hn : n = zs.length) : Held w base v zs := by
  subst hn
  rcases h.2 with ⟨rfl, h0⟩ | ⟨g, cap, cur, rfl, hbg, hg, hnc, hcm, hcs, _⟩
  · exact Or.inl ⟨List.length_eq_zero_iff.1 h0, rfl⟩
  · refine Or.inr ⟨g, 0, cap, cur, rfl, hbg, hg, by omega, hnc, hcm, ?_⟩
    intro i hi
    have := h.cells (g := g) rfl i (.int .u8 ((zs[i] : Nat) : Int)) (bv_get _ i hi)
    rw [Addr.add_mid] at this
    exact this

set_option maxHeartbeats 1000000 in
set_option maxRecDepth 100000 in
theorem rfeed_any (base : Nat) (w : World) (R : Nat) (ys xs : List Nat) (ad : Addr) (c : Nat) (h : Rd base w R ys) (hx : Oct xs) (hc : ∀ j u, (bv xs)[j]? = some u → w.cell? (ad.add j) = some u) (hn : ys.length + xs.length ≤ 140737488355328) :
    Calls Tryd.prog 29 #[.pointer (some ⟨R, 0, none⟩), .slice (some ad) xs.length c] w fun e w' => e = .returned (.tuple #[]) ∧ Rd base w' R (ys ++ xs) ∧ Below base w w' := by
  obtain ⟨i0, hi, hz0, hz1, hz2⟩ := info_parts info5all
  have I0 := hid hi
  have I1 := hid hz0
  have I2 := hid hz1
  have I3 := hid hz2
  clear hi hz0 hz1 hz2
  obtain ⟨h0, ho, hv, h1, h2⟩ := h
  have hR : R < w.heap.size := (Array.getElem?_eq_some_iff.1 h1).1
  have HC := hid hc
  have HO := hid (oct_app ho hx)
  clear hc ho hx
  have fin : ∀ (w' : World) (v' : Value), w'.heap[R]? = some (.cells #[hv] 68 (0, 0)) → Held w' base v' (ys ++ xs) → Rd base (w'.setCell ⟨R, 0, none⟩ v') R (ys ++ xs) := fun w' v' q1 q2 => Rd.put ys _ h0 q1 HO.out _ q2
  have FIN := hid fin
  have hlv : w.cell? ⟨R, 0, none⟩ = some hv := by rw [cell_of_row w R 0 _ _ _ h1]; rfl
  have H1 := hid h1
  clear fin h1
  rcases h2 with ⟨rfl, rfl⟩ | ⟨g, o, cap, cur, rfl, hbg, hg, r1, r2, r3, hB⟩
  · go_enter Tryd.func29, Tryd.ntmps29
    go_wp2_with (first
      | (at_builtin; go_loud (refine wpList_append_own _ (by rfl) (.tmp 8) (.tmp 9) 22 (by rfl) base 5 i0 (.int .u8 0) 1 1 Tryd.underlying22 I0.out I1.out I2.out I3.out rfl (by decide) _ 0 [] (by rfl) (World.ownsRow_nil w _ 5 1) ad xs.length c (bv xs) (by rfl) (by simp [bv_len]) HC.out (bv_one _) (by simp at hn; unfold maxLen; omega) (by simp at hn; omega) (by omega) ?_; intro v1 w1 hown1 hgrow1 _; have HG := hid hgrow1; have HH := hid (held_owns (zs := [] ++ xs) (by simpa using hown1) (by simp)); obtain ⟨p1, c1, hv1⟩ : ∃ p c, v1 = .slice p xs.length c := (by obtain ⟨p, c, h⟩ := HH.out.form; exact ⟨p, c, (by rw [h]; simp)⟩); rw [hv1] at HH; clear hown1 hgrow1; subst hv1; have HR1 := hid (show w1.heap[R]? = some (.cells #[.slice none 0 0] 68 (0, 0)) from (HG.out.block R hR (by simp [Value.ownBlock])).trans H1.out); have hc1 : w1.cell? ⟨R, 0, none⟩ = some (.slice none 0 0) := (by rw [cell_of_row w1 R 0 _ _ _ HR1.out]; rfl); have hf1 : w1.frozen? ⟨R, 0, none⟩ = false := frozen_of_row w1 R 0 _ _ HR1.out)))
    go_end0
    exact ⟨rfl, FIN.out _ _ HR1.out HH.out, ((Below.refl base w).grown HG.out (by omega) (by simp [Value.ownBlock])).setCell h0 _⟩
  · have HG0 := hid hg
    have HB := hid hB
    have hne : ¬ R = g := by
      intro e2
      rw [← e2, H1.out] at hg
      simp at hg
    clear hg hB
    go_enter Tryd.func29, Tryd.ntmps29
    go_wp2_with (first
      | (at_builtin; refine wpList_append_arg _ (by rfl) (.tmp 8) (.tmp 9) 22 (by rfl) 5 i0 (.int .u8 0) 1 1 Tryd.underlying22 I0.out I1.out I2.out I3.out rfl (by decide) g o ys.length cap (bv ys) (by rfl) (by simp [bv_len]) ?_ ad xs.length c (bv xs) (by rfl) (by simp [bv_len]) HC.out (bv_one _) ?_ (by unfold maxLen; omega) (by omega) ?_ ?_))
    · intro j u hj
      have hj' : j < ys.length := by
        have := (List.getElem?_eq_some_iff.1 hj).1
        simpa [bv_len] using this
      rw [bv_get _ j hj'] at hj
      rw [← hj]
      exact HB.out j hj'
    · intro hr j hj
      rw [bv_len] at hj
      refine ⟨?_, frozen_of_row w g _ _ _ HG0.out⟩
      rw [cell_of_row w g _ _ _ _ HG0.out, Array.getElem?_eq_getElem (by omega)]
      rfl
    · intro hr
      obtain ⟨cur', hcur, hsz⟩ := setCells_heap g 5 (bv xs) (o + ys.length) w cur HG0.out
      have HH := hid (show Held (w.setCells g (o + ys.length) (bv xs)) base (.slice (some ⟨g, o, none⟩) (ys.length + xs.length) cap) (ys ++ xs) from Or.inr ⟨g, o, cap, cur', by simp, hbg, hcur, by omega, by simp; omega, r3, by
        intro i hi
        by_cases hiy : i < ys.length
        · rw [World.cell?_setCells_out _ _ _ _ _ (fun _ _ => Or.inl (by show o + i < o + ys.length; omega))]
          rw [List.getElem_append_left hiy]
          exact HB.out i hiy
        · obtain ⟨k, rfl⟩ : ∃ k, i = ys.length + k := ⟨i - ys.length, by omega⟩
          have hk : k < xs.length := by simp at hi; omega
          have h3 := World.cell?_setCells_in g (bv xs) (o + ys.length) w (fun j hj => by
            rw [bv_len] at hj
            rw [cell_of_row w g _ _ _ _ HG0.out, Array.getElem?_eq_getElem (by omega)]
            rfl) k (by rw [bv_len]; exact hk)
          rw [← Nat.add_assoc, h3]
          simp [bv]⟩)
      have HR1 := hid (show (w.setCells g (o + ys.length) (bv xs)).heap[R]? = some (.cells #[.slice (some ⟨g, o, none⟩) ys.length cap] 68 (0, 0)) from (setCells_other g R hne _ _ _).trans H1.out)
      have HBE := hid (below_setCells hbg (bv xs) (o + ys.length) w (Below.refl base w))
      obtain ⟨W1, hW1⟩ : ∃ W, w.setCells g (o + ys.length) (bv xs) = W := ⟨_, rfl⟩
      rw [hW1] at HH HR1 HBE hcur ⊢
      have hc1 : W1.cell? ⟨R, 0, none⟩ = some (.slice (some ⟨g, o, none⟩) ys.length cap) := by rw [cell_of_row W1 R 0 _ _ _ HR1.out]; rfl
      have hf1 : W1.frozen? ⟨R, 0, none⟩ = false := frozen_of_row W1 R 0 _ _ HR1.out
      clear hlv hcur
      go_wp2
      go_end0
      exact ⟨rfl, FIN.out _ _ HR1.out HH.out, HBE.out.setCell h0 _⟩
    · intro hr v1 w1 hown1 hgrow1
      have HG := hid hgrow1
      have HH := hid (held_owns (w := w1) (v := v1) (n := ys.length + xs.length) (zs := ys ++ xs) (base := base) (by rw [bv_append]; exact owns_low hown1 (by omega)) (by simp))
      obtain ⟨p1, c1, hv1⟩ : ∃ p c, v1 = .slice p (ys.length + xs.length) c := by obtain ⟨p, c, h⟩ := HH.out.form; exact ⟨p, c, by rw [h]; simp⟩
      rw [hv1] at HH
      clear hown1 hgrow1
      subst hv1
      have HR1 := hid (show w1.heap[R]? = some (.cells #[.slice (some ⟨g, o, none⟩) ys.length cap] 68 (0, 0)) from (HG.out.block R hR (by simp)).trans H1.out)
      have hc1 : w1.cell? ⟨R, 0, none⟩ = some (.slice (some ⟨g, o, none⟩) ys.length cap) := by rw [cell_of_row w1 R 0 _ _ _ HR1.out]; rfl
      have hf1 : w1.frozen? ⟨R, 0, none⟩ = false := frozen_of_row w1 R 0 _ _ HR1.out
      clear hlv
      go_wp2
      go_end0
      exact ⟨rfl, FIN.out _ _ HR1.out HH.out, ((Below.refl base w).grown HG.out (by omega) (by simp)).setCell h0 _⟩
end Go.Proofs.YtffgcdhhjboppaaDoor
