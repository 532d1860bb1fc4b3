/-
  FeedBooks: the row.
-/
import Derived.Test.YtojmcfkbekodpaaFbAr
import Derived.Test.YtojmcfkbekodpaaFbB
namespace Go.Proofs.Ytojmcfkbekodpaa
open Go.RowKit Go.Deep in
theorem books_walk (d cap meet : Int) (q : Option Addr) (c0 : Nat) (l : List Cm) (W : World) (hl : Cmz W q l) (hok : ∀ c ∈ l, CmOk c) (hm : l.length ≤ maxLen) :
    Calls Try.prog 3 #[.int .i64 d, .agg #[.int .i64 cap, .int .i64 meet], .slice q l.length c0] W fun e w' => e = .returned (.bool true) ∧ Below W.heap.size W w' := by
  by_cases hd : 1 ≤ d ∧ d ≤ 64
  · cases hc : cfg cap meet with
    | false => exact books_no d cap meet q _ c0 W (.inr hc)
    | true =>
      obtain ⟨k, rfl⟩ : ∃ k : Nat, d = (k : Int) := ⟨d.toNat, by omega⟩
      exact books_ok k (by omega) (by omega) cap meet hc q c0 l W hl hok hm
  · exact books_no d cap meet q _ c0 W (.inl hd)
end Go.Proofs.Ytojmcfkbekodpaa
namespace Go.Proofs.Ytojmcfkbekodpaa.feedBooks
open Go.ChangeShapes Go.WideShapes Go.ChangeAt Go.RowKit Go.Joins Go.Deep
set_option linter.unusedVariables false
set_option maxRecDepth 100000 in
theorem lifted (os : Os) (started : os.Started) (H : Type) (enc : TypeId × Value → H) :
    ReturnsInHanded {} Try.checked os 3 .any (Rows.feedBooksSpec.pre6 enc Try.prog Try.f3 Rows.feedBooksRow.domain false) (Rows.feedBooksSpec.post enc Try.prog Try.f3 false true false false) := by
  refine returnsInHanded_of_change (C := Try.checked) own started (by kernel_rfl) Try.func3
    (ChangeSpec.witness6 (enc := enc) (C := Try.checked) false ⟨#[], #[.int .i64 0, .agg #[.int .i64 0, .int .i64 0], .slice none 0 0], []⟩ 8 (by kernel_rfl) (by kernel_rfl) (by kernel_rfl) (by kernel_rfl)) ?_
  intro W base args ds gs before hval0 hW hcnd _
  have hval : ∀ (j : Nat) t v, Try.f3.params[j]? = some t → args[j]? = some v → Value.okWide Try.prog W .any base t v := hval0
  have hW' := hW
  obtain ⟨p, q, hA0, hV, rfl, hfz, hnd⟩ := hW
  have hA : DataW.TrodAll enc Try.prog W 0 (fun _ => true) true Try.f3.params.toList args.toList ds p := hA0
  rw [Try.params3] at hA hval
  obtain ⟨v0, vs0, d0, ds0, p0, q0, hargs, rfl, rfl, h0, r0⟩ := trodAll_cons hA
  obtain ⟨v1, vs1, d1, ds1, p1, q1, e1, rfl, rfl, h1, r1⟩ := trodAll_cons r0
  obtain ⟨v2, vs2, d2, ds2, p2, q2, e2, rfl, rfl, h2, r2⟩ := trodAll_cons r1
  obtain ⟨rfl, rfl, rfl⟩ := trodAll_nil r2
  obtain rfl : args = #[v0, v1, v2] := by cases args; simp_all
  obtain ⟨rfl, rfl⟩ := trodVars_none hV
  have k0 := h0
  have k1 := h1
  have k2 := h2
  have lt0 : ∀ x ∈ p0, x.block < W.heap.size := by obtain ⟨m, hm⟩ := k0; exact DataW.trod_lt m _ _ _ hm
  have lt1 : ∀ x ∈ p1, x.block < W.heap.size := by obtain ⟨m, hm⟩ := k1; exact DataW.trod_lt m _ _ _ hm
  have lt2 : ∀ x ∈ p2, x.block < W.heap.size := by obtain ⟨m, hm⟩ := k2; exact DataW.trod_lt m _ _ _ hm
  obtain ⟨d', rfl, _, _, _⟩ := open_int Try.underlying3 (hval 0 3 v0 rfl rfl) h0
  obtain ⟨cap, meet, rfl⟩ := open_cfg (hval 1 23 v1 rfl rfl) h1
  obtain ⟨a1, cap1, l1, rfl, hV1, hok1, hm1⟩ := open_cms (hval 2 24 v2 rfl rfl) h2
  clear hA0 hval0
  refine (books_walk d' cap meet a1 cap1 l1 W hV1 hok1 hm1).mono fun e W' ⟨he, bel⟩ => ?_
  subst he
  exact ⟨_, rfl, _, _, _, [], _, [], hW', trodAll_mk1 (shut_bool Try.underlying4 _), (trodAll_cons_mk (Below.trod laidOut (by kernel_rfl) (of_decide_eq_true (by kernel_rfl)) k0 bel lt0) (trodAll_cons_mk (Below.trod laidOut (by kernel_rfl) (of_decide_eq_true (by kernel_rfl)) k1 bel lt1) (trodAll_cons_mk (Below.trod laidOut (by kernel_rfl) (of_decide_eq_true (by kernel_rfl)) k2 bel lt2) trodAll_mk0))), rfl, bel.frame _, fun h => by cases h⟩
theorem over : Rows.feedBooksRow.holds Try.pinned (OpenSpec.ofChange Rows.feedBooksSpec) :=
  OpenClaim.holds_of_wide 3 Try.f3 rfl rfl rfl rfl rfl rfl rfl ⟨rfl, rfl, rfl, rfl, rfl⟩ rfl rfl rfl rfl rfl (by kernel_rfl) Try.func3 (by kernel_rfl)
    (of_decide_eq_true (by kernel_rfl)) (by unfold Func.isWrapper; first | (rw [if_pos (by decide +kernel)]; kernel_rfl) | (rw [if_neg (by decide +kernel)]; exact ⟨rfl, rfl⟩))
    (fun os started H enc _ => lifted os started H enc)
/-- the statement -/
theorem proved : Rows.FeedBooksSaid :=
  over
end Go.Proofs.Ytojmcfkbekodpaa.feedBooks
namespace Go.Proofs.Ytojmcfkbekodpaa
theorem feedBooks_holds : Rows.FeedBooksSaid := feedBooks.proved
#print axioms feedBooks_holds
end Go.Proofs.Ytojmcfkbekodpaa
