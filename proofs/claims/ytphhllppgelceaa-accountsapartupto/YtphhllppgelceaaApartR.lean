/-
  AccountsApart: the row, second form.
-/
import Derived.Test.YtphhllppgelceaaAcAp
namespace Go.Proofs.Ytphhllppgelceaa.accountsApart
open Go.ChangeShapes Go.WideShapes Go.ChangeAt Go.RowKit Go.Joins Go.Deep Go.Proofs.Ytphhllppgelceaa.Ac
set_option linter.unusedVariables false
theorem walk (ma ta bb : Int) (h0 : U32 ma) (h1 : U32 ta) (h2 : U32 bb) (q : Option Addr) (c : Nat) (us : List Int) (q2 : Option Addr) (c2 : Nat) (l : List De) (w : World) (hu : Uz w q us) (hus : ∀ x ∈ us, U32 x) (hum : us.length ≤ 1048576) (hd : Dz w q2 l) (hdl : ∀ x ∈ l, DeOk x) (hm : l.length ≤ 1048576) :
    Calls Try.prog 5 #[.agg #[.int .u32 ma, .int .u32 ta, .int .u32 bb], .slice q us.length c, .slice q2 l.length c2] w fun e w' => e = .returned (.bool true) ∧ Below w.heap.size w w' := by
  have k0 := bounds_u32 h0
  have k1 := bounds_u32 h1
  have k2 := bounds_u32 h2
  by_cases hb : bb = 0 ∨ bb < ma ∨ bb < ta
  · exact apart_no ma ta bb q us.length c q2 l.length c2 w hb
  · exact apart_ok ma ta bb q c us q2 c2 l w k0.1 k1.1 (by omega) (by omega) (by omega) (by omega) hu hus hum hd hdl hm
set_option maxRecDepth 100000 in
theorem lifted (os : Os) (started : os.Started) (H : Type) (enc : TypeId × Value → H) (F : Stop.Interp) :
    ReturnsInHanded {} Try.checked os 5 .any ((Rows.OpenSpec.upto Rows.accountsApartSpec).pre6 enc Try.prog Try.f5 Rows.accountsApartUptoRow.domain false) (((Rows.OpenSpec.upto Rows.accountsApartSpec).at F).post enc Try.prog Try.f5 false true false false) := by
  refine returnsInHanded_of_cond (C := Try.checked) (s := Rows.OpenSpec.upto Rows.accountsApartSpec) (k := Rows.uptoSmall) rfl own started (by kernel_rfl) Try.func5
    (OpenSpec.witness (enc := enc) (C := Try.checked) (s := Rows.OpenSpec.upto Rows.accountsApartSpec) (k := Rows.uptoSmall) rfl false ⟨#[], #[.agg #[.int .u32 0, .int .u32 0, .int .u32 0], .slice none 0 0, .slice none 0 0], []⟩ 8 (by kernel_rfl) (by kernel_rfl) (by kernel_rfl)
      (x := ([.agg [.lit (.int .u32 0), .lit (.int .u32 0), .lit (.int .u32 0)], .nil, .nil], [], [])) (by kernel_rfl) rfl (by kernel_rfl)) ?_
  intro W base args ds gs before hval0 hW _ hk _
  have hval : ∀ (j : Nat) t v, Try.f5.params[j]? = some t → args[j]? = some v → Value.okWide Try.prog W .any base t v := hval0
  have hW' := hW
  obtain ⟨p, q, hA0, hV, rfl, hfz, hnd⟩ := hW
  have hA : DataW.TrodAll enc Try.prog W 0 (fun _ => true) true Try.f5.params.toList args.toList ds p := hA0
  rw [Try.params5] at hA hval
  obtain ⟨v0, vs0, d0, ds0, p0, q0, hargs, rfl, rfl, h0, r0⟩ := trodAll_cons hA
  obtain ⟨v1, vs1, d1, ds1, p1, q1, e1, rfl, rfl, h1, r1⟩ := trodAll_cons r0
  obtain ⟨v2, vs2, d2, ds2, p2, q2, e2, rfl, rfl, h2, r2⟩ := trodAll_cons r1
  obtain ⟨rfl, rfl, rfl⟩ := trodAll_nil r2
  obtain rfl : args = #[v0, v1, v2] := by cases args; simp_all
  obtain ⟨rfl, rfl⟩ := trodVars_none hV
  have k0 := h0
  have k1 := h1
  have k2 := h2
  have lt0 : ∀ x ∈ p0, x.block < W.heap.size := by obtain ⟨m, hm⟩ := k0; exact DataW.trod_lt m _ _ _ hm
  have lt1 : ∀ x ∈ p1, x.block < W.heap.size := by obtain ⟨m, hm⟩ := k1; exact DataW.trod_lt m _ _ _ hm
  have lt2 : ∀ x ∈ p2, x.block < W.heap.size := by obtain ⟨m, hm⟩ := k2; exact DataW.trod_lt m _ _ _ hm
  obtain ⟨ma, ta, bb, rfl, u0, u1, u2⟩ := open_tf (hval 0 24 v0 rfl rfl) h0
  obtain ⟨a1, cap1, l1, rfl, hV1, hb1, hok1⟩ := open_us (hval 1 25 v1 rfl rfl) h1
  have hlen := bulk_des (hval 2 27 v2 rfl rfl) h2
  obtain ⟨a2, cap2, l2, rfl, hV2, hok2, hm2⟩ := open_des (hval 2 27 v2 rfl rfl) h2
  clear hA0 hval0
  simp only [List.append_nil] at hk
  have h : Rows.uptoBulkAll [d0, d1, d2] ≤ 1048576 := of_decide_eq_true hk
  simp only [Rows.uptoBulkAll] at h
  have hn1 : l1.length ≤ 1048576 := by have := bulk_us hb1; omega
  have hn2 : l2.length ≤ 1048576 := by have := hlen _ _ _ rfl; omega
  refine (walk ma ta bb u0 u1 u2 a1 cap1 l1 a2 cap2 l2 W hV1 hok1 hn1 hV2 hok2 hn2).mono fun e W' ⟨he, bel⟩ => ?_
  subst he
  exact ⟨_, rfl, _, _, _, [], _, [], hW', trodAll_mk1 (shut_bool Try.underlying4 _), (trodAll_cons_mk (Below.trod laidOut (by kernel_rfl) (of_decide_eq_true (by kernel_rfl)) k0 bel lt0) (trodAll_cons_mk (Below.trod laidOut (by kernel_rfl) (of_decide_eq_true (by kernel_rfl)) k1 bel lt1) (trodAll_cons_mk (Below.trod laidOut (by kernel_rfl) (of_decide_eq_true (by kernel_rfl)) k2 bel lt2) trodAll_mk0))), rfl, bel.frame _, fun h => by cases h⟩
/-- the statement -/
theorem proved : Rows.AccountsApartUptoSaid :=
  OpenClaim.holds_of_cond 5 Try.f5 rfl rfl rfl rfl rfl rfl rfl ⟨rfl, rfl, rfl, rfl, rfl⟩ rfl rfl rfl rfl rfl (by kernel_rfl) Try.func5 (by kernel_rfl)
    (of_decide_eq_true (by kernel_rfl)) (by unfold Func.isWrapper; first | (rw [if_pos (by decide +kernel)]; kernel_rfl) | (rw [if_neg (by decide +kernel)]; exact ⟨rfl, rfl⟩))
    (fun os started H enc _ F => lifted os started H enc F)
end Go.Proofs.Ytphhllppgelceaa.accountsApart
namespace Go.Proofs.Ytphhllppgelceaa
theorem accountsApart_holds : Rows.AccountsApartUptoSaid := accountsApart.proved
#print axioms accountsApart_holds
end Go.Proofs.Ytphhllppgelceaa
