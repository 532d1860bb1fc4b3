/-
  The document's table: next, the look for a key.
-/
import Derived.Test.YthidnipmkffilaaIxR
namespace Go.Proofs.Ythidnipmkffilaa
open Go.RowKit Go.Deep
set_option linter.unusedVariables false
set_option linter.unusedSimpArgs false
theorem RHomeC {w : World} {X P n room : Nat} {c : Int} {T : Ix.Tab} (h : Rc w X P n room c T) : w.cell? ⟨X, 2, none⟩ = some (.slice (some ⟨P, 0, none⟩) n n) := h.cells.2.2
set_option maxHeartbeats 400000 in
theorem rnextC {w : World} {X P n room : Nat} {c : Int} {T : Ix.Tab} (h : Rc w X P n room c T) (hm : n ≤ 131072) {a : Nat} (ha : a < n) :
    Calls Try.prog 39 #[.pointer (some ⟨X, 0, none⟩), .int .i64 a] w fun e w' => e = .returned (.int .i64 (Ix.nx n a)) ∧ w' = w := by
  have hc := h.cells.2.2
  have hmod : ((a : Int) + 1) % (n : Int) = (Ix.nx n a : Int) := nx_mod ha
  have hmod2 : ((a : Int) + 1).tmod (n : Int) = (Ix.nx n a : Int) := by rw [Int.tmod_eq_emod_of_nonneg (by omega)]; exact hmod
  have n0 : ¬ (n : Int) = 0 := by omega
  have n1 : ¬ n = 0 := by omega
  clear h
  go_enter Try.func39, Try.ntmps39
  go_wp2
  go_ret
  exact ⟨rfl, rfl⟩
set_option maxHeartbeats 2000000 in
set_option maxRecDepth 100000 in
theorem rfind_any {w : World} {X P n room : Nat} {T : Ix.Tab} (h : Rx w X P n room T) (k : Int) :
    Calls Try.prog 38 #[.pointer (some ⟨X, 0, none⟩), .int .u64 k] w fun e w' => ∃ i, e = .returned (.tuple #[.int .i64 (i : Nat), .bool (eU (T i))]) ∧ Ix.Fd n (hm n) T k i ∧ Kp (fun _ => False) w w' := by
  have hc := h.cells.2.2
  obtain ⟨e, he, hf⟩ := h.free
  have HE := hid (And.intro he hf)
  have HL := hid h
  have hpos := h.pos
  have hmost := h.most
  have hk := hm_lt (n := n) (by omega) k
  have HK := hid hk
  have hC := RHome_any h k
  clear h he hf hk
  go_enter Try.func38, Try.ntmps38
  go_wp2_with (first | (go_at_call 14; with_reducible refine hC.mono ?_; rintro e9 w9 ⟨rfl, h9⟩; subst w9))
  go_loopw [6] (fun av wr => ∃ a : Nat, av = .int .i64 a ∧ wr = w ∧ a < n ∧ Hid (Ix.ds n (hm n k) a ≤ Ix.ds n (hm n k) e ∧ ∀ j, j < n → Ix.ds n (hm n k) j < Ix.ds n (hm n k) a → ∃ k' v', T j = some (k', v') ∧ k' ≠ k)) (fun av _ => Ix.ds n (intOf av).toNat e)
  case atStart => exact ⟨_, rfl, rfl, HK.out, hid ⟨by rw [Ix.ds_self]; omega, fun j _ hj => by rw [Ix.ds_self] at hj; omega⟩⟩
  case round =>
    obtain ⟨a, rfl, rfl, ha, HI⟩ := hrel
    have f2 : (a : Int) < (n : Int) := by omega
    have f3 : (0 : Int) ≤ (a : Int) := by omega
    have ct1 : ((a : Int)).toNat = a := by omega
    obtain ⟨c0, c1, c2⟩ := HL.out.pl.cell ha
    clear c2 hC hpos
    have HHA := hid ha
    by_cases hu : T a = none
    · rw [hu] at c0 c1
      simp only [eU, eK] at c0 c1
      have FIN := hid (show Ix.Fd n (hm n) T k a from ⟨HHA.out, HI.out.2, .inl hu⟩)
      have HU := hid hu
      clear hu ha
      go_wp2_with fail
      go_quiet (fail)
      go_wp2_with fail
      go_ret2
      exact ⟨a, by rw [HU.out]; rfl, FIN.out, Kp.drewN _ _ _⟩
    · obtain ⟨⟨k', v'⟩, hs⟩ : ∃ p, T a = some p := by
        cases hx : T a with
        | none => exact absurd hx hu
        | some p => exact ⟨p, rfl⟩
      rw [hs] at c0 c1
      simp only [eU, eK] at c0 c1
      by_cases hkk : k' = k
      · subst hkk
        have FIN := hid (show Ix.Fd n (hm n) T k' a from ⟨HHA.out, HI.out.2, .inr ⟨v', hs⟩⟩)
        have HU := hid hs
        have kk : (k' == k') = true := by simp
        clear hu ha hs
        go_wp2_with fail
        go_quiet (fail)
        go_wp2_with fail
        go_ret2
        exact ⟨a, by rw [HU.out]; rfl, FIN.out, Kp.drewN _ _ _⟩
      · have kk : (k' == k) = false := by simpa using hkk
        have hne : a ≠ e := by
          intro hx; subst hx; exact hu HE.out.2
        have hC2 := rnextC HL.out.rc hmost ha
        have hlt : Ix.ds n (hm n k) a < Ix.ds n (hm n k) e := by
          have h2 := HI.out.1
          rcases Nat.lt_or_ge (Ix.ds n (hm n k) a) (Ix.ds n (hm n k) e) with hx | hx
          · exact hx
          · exact absurd (Ix.ds_inj HK.out ha HE.out.1 (by omega)) hne
        have hnx := Ix.ds_nx HK.out ha (by have := Ix.ds_lt HK.out HE.out.1; omega)
        have hdn := Ix.ds_from_nx ha HE.out.1 hne
        have NEXT := hid (show Ix.nx n a < n ∧ Ix.ds n (hm n k) (Ix.nx n a) ≤ Ix.ds n (hm n k) e ∧ (∀ j, j < n → Ix.ds n (hm n k) j < Ix.ds n (hm n k) (Ix.nx n a) → ∃ k' v', T j = some (k', v') ∧ k' ≠ k) ∧ Ix.ds n (Ix.nx n a) e < Ix.ds n a e from by
          refine ⟨Ix.nx_lt ha, by omega, ?_, by omega⟩
          intro j hj hl
          by_cases hja : j = a
          · subst hja; exact ⟨k', v', hs, hkk⟩
          · have : Ix.ds n (hm n k) j ≠ Ix.ds n (hm n k) a := fun hx => hja (Ix.ds_inj HK.out hj ha hx)
            exact HI.out.2 j hj (by omega))
        obtain ⟨a1, ha1⟩ : ∃ a1, Ix.nx n a = a1 := ⟨_, rfl⟩
        rw [ha1] at hC2 NEXT
        clear hu ha hs hkk hne hlt hnx hdn ha1 hmost
        go_wp2_with (first | (go_at_call 39; with_reducible refine hC2.mono ?_; rintro e9 w9 ⟨rfl, h9⟩; subst w9))
        go_roundw
        case rel => exact ⟨a1, rfl, by first | trivial | rfl, NEXT.out.1, hid ⟨NEXT.out.2.1, NEXT.out.2.2.1⟩⟩
        case measure => simpa [intOf] using NEXT.out.2.2.2
end Go.Proofs.Ythidnipmkffilaa
