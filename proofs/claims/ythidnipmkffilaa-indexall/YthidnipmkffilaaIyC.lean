/-
  The document's behind.
-/
import Derived.Test.YthidnipmkffilaaIyB
namespace Go.Proofs.Ythidnipmkffilaa
open Go.RowKit Go.Deep
set_option linter.unusedVariables false
set_option linter.unusedSimpArgs false
set_option maxHeartbeats 2000000 in
set_option maxRecDepth 100000 in
theorem behindC {w : World} {X P n room : Nat} {c : Int} {T : Ix.Tab} (h : Rc w X P n room c T) (hmost : n ≤ 131072) {p f t : Nat} (hp : p < n) (hf : f < n) (ht : t < n) :
    Calls Try.prog 40 #[.pointer (some ⟨X, 0, none⟩), .int .i64 p, .int .i64 f, .int .i64 t] w fun e w' => e = .returned (.bool (decide (Ix.ds n p t < Ix.ds n f t))) ∧ w' = w := by
  have HL := hid h
  have HP := hid (And.intro hp (And.intro hf ht))
  clear h hp hf ht
  go_enter Try.func40, Try.ntmps40
  go_wp2_with fail
  go_loopw [9] (fun av wr => ∃ a : Nat, av = .int .i64 a ∧ wr = w ∧ a < n ∧ Hid (Ix.ds n a t ≤ Ix.ds n f t ∧ ¬ (Ix.ds n a t ≤ Ix.ds n p t ∧ Ix.ds n p t < Ix.ds n f t))) (fun av _ => Ix.ds n (intOf av).toNat t)
  case atStart => exact ⟨f, rfl, rfl, HP.out.2.1, hid ⟨Nat.le_refl _, by omega⟩⟩
  case round =>
    obtain ⟨a, rfl, rfl, ha, HI⟩ := hrel
    by_cases hat : a = t
    · subst hat
      have aa : ((a : Int) == (a : Int)) = true := by simp
      have hz := Ix.ds_self n a
      have HD := hid (show decide (Ix.ds n p a < Ix.ds n f a) = false from decide_eq_false (by have := HI.out; omega))
      clear ha hz
      go_wp2_with fail
      go_ret
      exact ⟨by rw [HD.out]; rfl, rfl⟩
    · have na : ((a : Int) == (t : Int)) = false := by simp; omega
      have hN := rnextC HL.out hmost ha
      have hdn := Ix.ds_from_nx ha HP.out.2.2 hat
      have hnl := Ix.nx_lt ha
      by_cases hnp : Ix.nx n a = p
      · have HD := hid (show decide (Ix.ds n p t < Ix.ds n f t) = true from decide_eq_true (by have := HI.out.1; rw [hnp] at hdn; omega))
        rw [hnp] at hN
        have pp : ((p : Int) == (p : Int)) = true := by simp
        clear ha hat hdn hnl hnp
        go_wp2_with (first | (go_at_call 39; with_reducible refine hN.mono ?_; rintro e9 w9 ⟨rfl, h9⟩; subst w9))
        go_ret
        exact ⟨by rw [HD.out]; rfl, rfl⟩
      · have pp : ((Ix.nx n a : Int) == (p : Int)) = false := by simp; omega
        have NEXT := hid (show Ix.ds n (Ix.nx n a) t ≤ Ix.ds n f t ∧ ¬ (Ix.ds n (Ix.nx n a) t ≤ Ix.ds n p t ∧ Ix.ds n p t < Ix.ds n f t) from by
          have h1 := HI.out
          refine ⟨by omega, ?_⟩
          rintro ⟨h2, h3⟩
          have h4 : Ix.ds n (Ix.nx n a) t = Ix.ds n p t := by omega
          have h5 := HP.out
          have := Ix.ds_eq n (Ix.nx n a) t; have := Ix.ds_eq n p t
          omega)
        have HM := hid (show Ix.ds n (Ix.nx n a) t < Ix.ds n a t by omega)
        have HNL := hid hnl
        obtain ⟨a1, ha1⟩ : ∃ a1, Ix.nx n a = a1 := ⟨_, rfl⟩
        rw [ha1] at hN NEXT pp HM HNL
        clear ha hat hdn hnl hnp ha1
        go_wp2_with (first | (go_at_call 39; with_reducible refine hN.mono ?_; rintro e9 w9 ⟨rfl, h9⟩; subst w9))
        go_roundw
        case rel => exact ⟨a1, rfl, by first | trivial | rfl, HNL.out, NEXT⟩
        case measure => simpa [intOf] using HM.out
end Go.Proofs.Ythidnipmkffilaa
