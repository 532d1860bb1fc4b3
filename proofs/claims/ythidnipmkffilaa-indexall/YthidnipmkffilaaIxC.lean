/-
  The look for a key.
-/
import Derived.Test.YthidnipmkffilaaIxB
namespace Go.Proofs.Ythidnipmkffilaa
open Go.RowKit Go.Deep
set_option linter.unusedVariables false
set_option linter.unusedSimpArgs false
set_option maxHeartbeats 2000000 in
set_option maxRecDepth 100000 in
theorem find_any {w : World} {X P n room : Nat} {T : Ix.Tab} (h : Lx w X P n room T) (k : Int) :
    Calls Try.prog 33 #[.pointer (some ⟨X, 0, none⟩), .int .u64 k] w fun e w' => ∃ i, e = .returned (.tuple #[.int .i64 (i : Nat), .bool (eU (T i))]) ∧ Ix.Fd n (hm n) T k i ∧ Kp (fun _ => False) w w' := by
  have hc := h.cells.2.2
  obtain ⟨e, he, hf⟩ := h.free
  have HE := hid (And.intro he hf)
  have HL := hid h
  have hpos := h.pos
  have hmost := h.most
  have hk := hm_lt (n := n) (by omega) k
  have HK := hid hk
  have hC := Home_any h k
  have HPOS := hid hpos
  clear h he hf hk
  go_enter Try.func33, Try.ntmps33
  go_wp2_with (first | (go_at_call 13; with_reducible refine hC.mono ?_; rintro e9 w9 ⟨rfl, h9⟩; subst w9))
  go_loopw [6, 16] (fun av iv wr => ∃ a i : Nat, av = .int .i64 a ∧ iv = .int .i64 i ∧ wr = w ∧ a < n ∧ Hid (Ix.ds n (hm n k) a = i ∧ i ≤ Ix.ds n (hm n k) e ∧ ∀ j, j < n → Ix.ds n (hm n k) j < i → ∃ k' v', T j = some (k', v') ∧ k' ≠ k)) (fun _ iv _ => n - (intOf iv).toNat)
  case atStart => exact ⟨_, 0, rfl, rfl, rfl, HK.out, hid ⟨Ix.ds_self _ _, Nat.zero_le _, fun j _ hj => absurd hj (Nat.not_lt_zero _)⟩⟩
  case round =>
    obtain ⟨a, i, rfl, rfl, rfl, ha, HI⟩ := hrel
    have hi : i < n := by
      have h1 := HI.out.1; have h2 := Ix.ds_lt HK.out ha; omega
    have f1 : (i : Int) < (n : Int) := by omega
    have f2 : (a : Int) < (n : Int) := by omega
    have f3 : (0 : Int) ≤ (a : Int) := by omega
    have ct1 : ((a : Int)).toNat = a := by omega
    obtain ⟨c0, c1, c2⟩ := HL.out.pl.cell ha
    clear c2 hC hpos
    have HHI := hid hi
    have HHA := hid ha
    by_cases hu : T a = none
    · rw [hu] at c0 c1
      simp only [eU, eK] at c0 c1
      have FIN := hid (show Ix.Fd n (hm n) T k a from ⟨HHA.out, by rw [HI.out.1]; exact HI.out.2.2, .inl hu⟩)
      have HU := hid hu
      clear hu hi ha
      go_wp2_with fail
      go_quiet (fail)
      go_wp2_with fail
      go_ret2
      exact ⟨a, by rw [HU.out]; rfl, FIN.out, Kp.drewN _ _ _⟩
    · obtain ⟨⟨k', v'⟩, hs⟩ : ∃ p, T a = some p := by
        cases hx : T a with
        | none => exact absurd hx hu
        | some p => exact ⟨p, rfl⟩
      rw [hs] at c0 c1
      simp only [eU, eK] at c0 c1
      by_cases hkk : k' = k
      · subst hkk
        have FIN := hid (show Ix.Fd n (hm n) T k' a from ⟨HHA.out, by rw [HI.out.1]; exact HI.out.2.2, .inr ⟨v', hs⟩⟩)
        have HU := hid hs
        have kk : (k' == k') = true := by simp
        clear hu hi ha hs
        go_wp2_with fail
        go_quiet (fail)
        go_wp2_with fail
        go_ret2
        exact ⟨a, by rw [HU.out]; rfl, FIN.out, Kp.drewN _ _ _⟩
      · have kk : (k' == k) = false := by simpa using hkk
        have hne : a ≠ e := by
          intro hx; subst hx; exact hu HE.out.2
        have hC2 := next_any HL.out ha
        have hlt : i < Ix.ds n (hm n k) e := by
          have h1 := HI.out.1; have h2 := HI.out.2.1
          rcases Nat.lt_or_ge i (Ix.ds n (hm n k) e) with hx | hx
          · exact hx
          · exact absurd (Ix.ds_inj HK.out ha HE.out.1 (by omega)) hne
        have hnx := Ix.ds_nx HK.out ha (by have := HI.out.1; have := Ix.ds_lt HK.out HE.out.1; omega)
        rw [HI.out.1] at hnx
        have NEXT := hid (show Ix.nx n a < n ∧ Ix.ds n (hm n k) (Ix.nx n a) = i + 1 ∧ i + 1 ≤ Ix.ds n (hm n k) e ∧ ∀ j, j < n → Ix.ds n (hm n k) j < i + 1 → ∃ k' v', T j = some (k', v') ∧ k' ≠ k from by
          refine ⟨Ix.nx_lt ha, hnx, hlt, ?_⟩
          intro j hj hl
          by_cases hja : j = a
          · subst hja; exact ⟨k', v', hs, hkk⟩
          · have : Ix.ds n (hm n k) j ≠ Ix.ds n (hm n k) a := fun hx => hja (Ix.ds_inj HK.out hj ha hx)
            have h1 := HI.out.1
            exact HI.out.2.2 j hj (by omega))
        have HM := hid (show n - (i + 1) < n - i by omega)
        have wj : IntKind.i64.wrap ((i : Int) + 1) = ((i + 1 : Nat) : Int) := by simp [IntKind.wrap, IntKind.bits, IntKind.signed]; omega
        obtain ⟨j1, hj1⟩ : ∃ j1, i + 1 = j1 := ⟨_, rfl⟩
        rw [hj1] at wj NEXT HM
        obtain ⟨a1, ha1⟩ : ∃ a1, Ix.nx n a = a1 := ⟨_, rfl⟩
        rw [ha1] at hC2 NEXT
        clear hu hi ha hs hkk hne hlt hnx hj1 ha1 hmost
        go_wp2_with (first | (go_at_call 44; with_reducible refine hC2.mono ?_; rintro e9 w9 ⟨rfl, h9⟩; subst w9))
        go_roundw
        case rel => exact ⟨a1, j1, rfl, rfl, by first | trivial | rfl, NEXT.out.1, hid ⟨NEXT.out.2.1, NEXT.out.2.2⟩⟩
        case measure => simpa [intOf] using HM.out
end Go.Proofs.Ythidnipmkffilaa
