/-
  FeedFinds: the row, second form.
-/
import Derived.Test.YtojmcfkbekodpaaQj
import Derived.Test.YtojmcfkbekodpaaPx
import Derived.Test.YtojmcfkbekodpaaRq
namespace Go.Proofs.Ytojmcfkbekodpaa
open Go.RowKit Go.Deep in
theorem finds_walk (d hold cap meet : Int) (q : Option Addr) (c0 : Nat) (l : List Cm) (pv : Option Addr) (cv : Nat) (vs : List Int) (W : World) (hl : Cmz W q l) (hok : ∀ c ∈ l, CmOk c) (hm : l.length ≤ 1048576) (hv : Vz W pv vs) (hvr : ∀ v ∈ vs, -9223372036854775808 ≤ v ∧ v < 9223372036854775808) (hvm : vs.length ≤ 1048576) :
    Calls Try.prog 5 #[.int .i64 d, .int .i64 hold, .agg #[.int .i64 cap, .int .i64 meet], .slice q l.length c0, .slice pv vs.length cv] W fun e w' => e = .returned (.bool true) ∧ Below W.heap.size W w' := by
  by_cases hd : 1 ≤ d ∧ d ≤ 64
  · cases hc : cfg cap meet with
    | false => exact finds_o d hold cap meet q _ c0 pv _ cv W (.inr hc)
    | true =>
      obtain ⟨k, rfl⟩ : ∃ k : Nat, d = (k : Int) := ⟨d.toNat, by omega⟩
      by_cases hh : 0 ≤ hold ∧ hold ≤ 1024
      · obtain ⟨h, rfl⟩ : ∃ h : Nat, hold = (h : Int) := ⟨hold.toNat, by omega⟩
        exact finds_ok k h (by omega) (by omega) (by omega) cap meet hc q c0 l pv cv vs W hl hok hm hv hvr hvm
      · exact finds_h k hold (by omega) (by omega) hh cap meet hc q c0 l pv _ cv W hl hok hm
  · exact finds_o d hold cap meet q _ c0 pv _ cv W (.inl hd)
end Go.Proofs.Ytojmcfkbekodpaa
namespace Go.Proofs.Ytojmcfkbekodpaa.feedFinds
open Go.ChangeShapes Go.WideShapes Go.ChangeAt Go.RowKit Go.Joins Go.Deep
set_option linter.unusedVariables false
set_option maxRecDepth 100000 in
theorem lifted (os : Os) (started : os.Started) (H : Type) (enc : TypeId × Value → H) (F : Stop.Interp) :
    ReturnsInHanded {} Try.checked os 5 .any ((Rows.OpenSpec.upto Rows.feedFindsSpec).pre6 enc Try.prog Try.f5 Rows.feedFindsUptoRow.domain false) (((Rows.OpenSpec.upto Rows.feedFindsSpec).at F).post enc Try.prog Try.f5 false true false false) := by
  refine returnsInHanded_of_cond (C := Try.checked) (s := Rows.OpenSpec.upto Rows.feedFindsSpec) (k := Rows.uptoSmall) rfl own started (by kernel_rfl) Try.func5
    (OpenSpec.witness (enc := enc) (C := Try.checked) (s := Rows.OpenSpec.upto Rows.feedFindsSpec) (k := Rows.uptoSmall) rfl false ⟨#[], #[.int .i64 0, .int .i64 0, .agg #[.int .i64 0, .int .i64 0], .slice none 0 0, .slice none 0 0], []⟩ 8 (by kernel_rfl) (by kernel_rfl) (by kernel_rfl)
      (x := ([.lit (.int .i64 0), .lit (.int .i64 0), .agg [.lit (.int .i64 0), .lit (.int .i64 0)], .nil, .nil], [], [])) (by kernel_rfl) rfl (by kernel_rfl)) ?_
  intro W base args ds gs before hval0 hW _ hk _
  have hval : ∀ (j : Nat) t v, Try.f5.params[j]? = some t → args[j]? = some v → Value.okWide Try.prog W .any base t v := hval0
  have hW' := hW
  obtain ⟨p, q, hA0, hV, rfl, hfz, hnd⟩ := hW
  have hA : DataW.TrodAll enc Try.prog W 0 (fun _ => true) true Try.f5.params.toList args.toList ds p := hA0
  rw [Try.params5] at hA hval
  obtain ⟨v0, vs0, d0, ds0, p0, q0, hargs, rfl, rfl, h0, r0⟩ := trodAll_cons hA
  obtain ⟨v1, vs1, d1, ds1, p1, q1, e1, rfl, rfl, h1, r1⟩ := trodAll_cons r0
  obtain ⟨v2, vs2, d2, ds2, p2, q2, e2, rfl, rfl, h2, r2⟩ := trodAll_cons r1
  obtain ⟨v3, vs3, d3, ds3, p3, q3, e3, rfl, rfl, h3, r3⟩ := trodAll_cons r2
  obtain ⟨v4, vs4, d4, ds4, p4, q4, e4, rfl, rfl, h4, r4⟩ := trodAll_cons r3
  obtain ⟨rfl, rfl, rfl⟩ := trodAll_nil r4
  obtain rfl : args = #[v0, v1, v2, v3, v4] := by cases args; simp_all
  obtain ⟨rfl, rfl⟩ := trodVars_none hV
  have k0 := h0
  have k1 := h1
  have k2 := h2
  have k3 := h3
  have k4 := h4
  have lt0 : ∀ x ∈ p0, x.block < W.heap.size := by obtain ⟨m, hm⟩ := k0; exact DataW.trod_lt m _ _ _ hm
  have lt1 : ∀ x ∈ p1, x.block < W.heap.size := by obtain ⟨m, hm⟩ := k1; exact DataW.trod_lt m _ _ _ hm
  have lt2 : ∀ x ∈ p2, x.block < W.heap.size := by obtain ⟨m, hm⟩ := k2; exact DataW.trod_lt m _ _ _ hm
  have lt4 : ∀ x ∈ p4, x.block < W.heap.size := by obtain ⟨m, hm⟩ := k4; exact DataW.trod_lt m _ _ _ hm
  have lt3 : ∀ x ∈ p3, x.block < W.heap.size := by obtain ⟨m, hm⟩ := k3; exact DataW.trod_lt m _ _ _ hm
  obtain ⟨one, rfl, _, _, _⟩ := open_int Try.underlying3 (hval 0 3 v0 rfl rfl) h0
  obtain ⟨hold, rfl, _, _, _⟩ := open_int Try.underlying3 (hval 1 3 v1 rfl rfl) h1
  obtain ⟨cap, meet, rfl⟩ := open_cfg (hval 2 23 v2 rfl rfl) h2
  have hlen := bulk_cms (hval 3 24 v3 rfl rfl) h3
  obtain ⟨a3, cap3, l3, rfl, hV3, hok3, hm3⟩ := open_cms (hval 3 24 v3 rfl rfl) h3
  obtain ⟨a4, cap4, l4, rfl, hV4, hd4, hm4, hr4⟩ := open_vals (hval 4 66 v4 rfl rfl) h4
  have hlen4 := bulk_nums hd4
  clear hA0 hval0
  simp only [List.append_nil] at hk
  have hn : l3.length ≤ 1048576 ∧ l4.length ≤ 1048576 := by
    have h : Rows.uptoBulkAll [d0, d1, d2, d3, d4] ≤ 1048576 := of_decide_eq_true hk
    simp only [Rows.uptoBulkAll] at h
    have := hlen _ _ _ rfl
    omega
  refine (finds_walk one hold cap meet a3 cap3 l3 a4 cap4 l4 W hV3 hok3 hn.1 hV4 hr4 hn.2).mono fun e W' ⟨he, bel⟩ => ?_
  subst he
  exact ⟨_, rfl, _, _, _, [], _, [], hW', trodAll_mk1 (shut_bool Try.underlying4 _), (trodAll_cons_mk (Below.trod laidOut (by kernel_rfl) (of_decide_eq_true (by kernel_rfl)) k0 bel lt0) (trodAll_cons_mk (Below.trod laidOut (by kernel_rfl) (of_decide_eq_true (by kernel_rfl)) k1 bel lt1) (trodAll_cons_mk (Below.trod laidOut (by kernel_rfl) (of_decide_eq_true (by kernel_rfl)) k2 bel lt2) (trodAll_cons_mk (Below.trod laidOut (by kernel_rfl) (of_decide_eq_true (by kernel_rfl)) k3 bel lt3) (trodAll_cons_mk (Below.trod laidOut (by kernel_rfl) (of_decide_eq_true (by kernel_rfl)) k4 bel lt4) trodAll_mk0))))), rfl, bel.frame _, fun h => by cases h⟩
/-- the statement -/
theorem proved : Rows.FeedFindsUptoSaid :=
  OpenClaim.holds_of_cond 5 Try.f5 rfl rfl rfl rfl rfl rfl rfl ⟨rfl, rfl, rfl, rfl, rfl⟩ rfl rfl rfl rfl rfl (by kernel_rfl) Try.func5 (by kernel_rfl)
    (of_decide_eq_true (by kernel_rfl)) (by unfold Func.isWrapper; first | (rw [if_pos (by decide +kernel)]; kernel_rfl) | (rw [if_neg (by decide +kernel)]; exact ⟨rfl, rfl⟩))
    (fun os started H enc _ F => lifted os started H enc F)
end Go.Proofs.Ytojmcfkbekodpaa.feedFinds
namespace Go.Proofs.Ytojmcfkbekodpaa
theorem feedFinds_holds : Rows.FeedFindsUptoSaid := feedFinds.proved
#print axioms feedFinds_holds
end Go.Proofs.Ytojmcfkbekodpaa
