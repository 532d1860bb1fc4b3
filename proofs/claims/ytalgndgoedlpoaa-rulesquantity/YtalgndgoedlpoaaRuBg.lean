/-
  A book is begun; the law of the numbers is walked.
-/
import Derived.Test.YtalgndgoedlpoaaRuLv
namespace Go.Proofs.Ytalgndgoedlpoaa
open Go.RowKit Go.Deep Go.Shelf
set_option linter.unusedVariables false
set_option linter.unusedSimpArgs false
set_option maxHeartbeats 8000000
set_option maxRecDepth 100000
theorem Pl.back {w V : World} {B : Nat} {b : Bs} {U : World} (h : Pl V B b U) (hb : Below w.heap.size w V) : Pl w B b U :=
  ⟨btr hb h.be, h.bm, h.gb, fun j hj => Nat.le_trans hb.size (h.nw j hj)⟩
theorem begun_any (cap meet : Int) (w : World) :
    Calls Try.prog 13 #[.agg #[.int .i64 cap, .int .i64 meet]] w fun e w' => (cfg cap meet = false ∧ e = .returned (.tuple #[.pointer none, .bool true]) ∧ Below w.heap.size w w') ∨ (cfg cap meet = true ∧ ∃ B b, e = .returned (.tuple #[.pointer (some ⟨B, 0, none⟩), .bool true]) ∧ Pl w B b w' ∧ Fr b cap meet) := by
  have CL := hid (fun U => lives_any U)
  have CF := hid (fun U => fit_any cap meet U)
  have CN := hid (fun U => pl_new cap meet U)
  obtain ⟨v, hv⟩ : ∃ v, cfg cap meet = v := ⟨_, rfl⟩
  rw [hv] at CF CN ⊢
  clear hv
  have HB := hid (ball w (.cells #[.int .i64 cap, .int .i64 meet] 23))
  have hr := World.alloc_heap_new w (.cells #[.int .i64 cap, .int .i64 meet] 23)
  obtain ⟨W, hW⟩ : ∃ W, w.alloc (.cells #[.int .i64 cap, .int .i64 meet] 23) = W := ⟨_, rfl⟩
  rw [hW] at HB hr
  have HR := hid hr
  have HW := hid hW
  clear hr hW
  have HCE := hid (fun (U : World) (hU : Below W.heap.size W U) => (show U.cell? ⟨w.heap.size, 0, none⟩ = some (.int .i64 cap) ∧ U.cell? ⟨w.heap.size, 1, none⟩ = some (.int .i64 meet) from by
    have h := row_on HR.out hU
    have c0 := row_cell h 0
    have c1 := row_cell h 1
    simp only [List.getElem?_toArray, List.getElem?_cons_succ, List.getElem?_cons_zero] at c0 c1
    exact ⟨c0, c1⟩))
  cases v with
  | false =>
    have CN2 := hid (fun U => (CN.out U).mono (R' := fun e w' => e = .returned (.tuple #[.pointer none, .int .i64 1]) ∧ Below U.heap.size U w') (by
      rintro e w' (⟨_, h1, h2⟩ | ⟨h, _⟩)
      · exact ⟨h1, h2⟩
      · cases h))
    go_enter Try.func13, Try.ntmps13
    go_upto_region 1 with fail
    have e0 := HW.out
    rw [e0]
    clear e0
    go_wp2_with (first | (go_at_call 36; with_reducible refine (CL.out _).mono ?_; rintro e w1 ⟨rfl, hb1⟩; have HB1 := hid hb1; obtain ⟨c0, c1⟩ := HCE.out w1 hb1; clear hb1) | (go_at_call 8; with_reducible refine (CN2.out _).mono ?_; rintro e w2 ⟨rfl, hb2⟩; have HB2 := hid (btr HB1.out hb2); obtain ⟨d0, d1⟩ := HCE.out w2 HB2.out; clear hb2) | (go_at_call 37; with_reducible refine (CF.out w2).mono ?_; rintro e w3 ⟨rfl, hb3⟩; have HB3 := hid (btr HB2.out hb3); obtain ⟨f0, f1⟩ := HCE.out w3 HB3.out; clear hb3) | (go_at_call 37; with_reducible refine (CF.out w3).mono ?_; rintro e w4 ⟨rfl, hb4⟩; have HB4 := hid (btr HB3.out hb4); clear hb4))
    go_ret2
    first | exact .inl ⟨trivial, rfl, btr HB.out HB4.out⟩ | exact .inl ⟨rfl, rfl, btr HB.out HB4.out⟩
  | true =>
    have CN2 := hid (fun U => (CN.out U).mono (R' := fun e w' => ∃ B b, e = .returned (.tuple #[.pointer (some ⟨B, 0, none⟩), .int .i64 0]) ∧ Pl U B b w' ∧ Fr b cap meet) (by
      rintro e w' (⟨h, _⟩ | ⟨_, h⟩)
      · cases h
      · exact h))
    go_enter Try.func13, Try.ntmps13
    go_upto_region 1 with fail
    have e0 := HW.out
    rw [e0]
    clear e0
    go_wp2_with (first | (go_at_call 36; with_reducible refine (CL.out _).mono ?_; rintro e w1 ⟨rfl, hb1⟩; have HB1 := hid hb1; obtain ⟨c0, c1⟩ := HCE.out w1 hb1; clear hb1) | (go_at_call 8; with_reducible refine (CN2.out _).mono ?_; rintro e w2 ⟨B, b, rfl, h2, hf2⟩; have H2 := hid h2; have HF2 := hid hf2; have HB2 := hid (btr HB1.out h2.be); obtain ⟨d0, d1⟩ := HCE.out w2 HB2.out; clear h2 hf2) | (go_at_call 37; with_reducible refine (CF.out w2).mono ?_; rintro e w3 ⟨rfl, hb3⟩; have HB23 := hid hb3; have HB3 := hid (btr HB2.out hb3); obtain ⟨f0, f1⟩ := HCE.out w3 HB3.out; clear hb3) | (go_at_call 37; with_reducible refine (CF.out w3).mono ?_; rintro e w4 ⟨rfl, hb4⟩; have HB34 := hid hb4; clear hb4))
    go_ret2
    first | exact .inr ⟨trivial, B, b, rfl, (H2.out.back (btr HB.out HB1.out)).on (btr HB23.out HB34.out), HF2.out⟩ | exact .inr ⟨rfl, B, b, rfl, (H2.out.back (btr HB.out HB1.out)).on (btr HB23.out HB34.out), HF2.out⟩
end Go.Proofs.Ytalgndgoedlpoaa
