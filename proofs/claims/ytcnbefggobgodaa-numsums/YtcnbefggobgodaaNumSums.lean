/-
  NumSums: the four rules hold together.
-/
import Derived.Test.YtcnbefggobgodaaNumC
import Derived.ProofKit
import Derived.OpenShut
namespace Go.Proofs.Ytcnbefggobgodaa.numSums
open Go.ChangeShapes Go.WideShapes Go.ChangeAt Go.RowKit
set_option linter.unusedVariables false

theorem own : ownKnob Try.prog.godebug = none := by kernel_rfl

theorem addV_comm (a b : Int) : addV b a = addV a b := by unfold addV; rw [Int.add_comm]
theorem addE_comm (a b : Int) : addE b a = addE a b := by unfold addE; rw [Int.add_comm]
theorem mulV_comm (a b : Int) : mulV b a = mulV a b := by unfold mulV; rw [Int.mul_comm]
theorem mulE_comm (a b : Int) : mulE b a = mulE a b := by unfold mulE; rw [Int.mul_comm]

theorem sum3 (a b c : Int) (w : World) (B : Nat) (hB : w.heap.size = B) (ha : Word a) (hb : Word b) (hc : Word c) :
    Calls Try.prog 17 #[.slice (some ⟨B, 0, none⟩) 3 3] (w.alloc (.cells #[.int .u64 a, .int .u64 b, .int .u64 c] 22)) fun e w' =>
      e = .returned (.tuple #[.int .u64 (sumV [a, b, c]), .int .i64 (sumE [a, b, c])]) ∧ w' = w.alloc (.cells #[.int .u64 a, .int .u64 b, .int .u64 c] 22) := by
  subst hB
  refine sum_any [a, b, c] w.heap.size 0 3 _ (by simp) ?_ ?_
  · intro x hx; simp at hx; rcases hx with rfl | rfl | rfl <;> assumption
  · intro j hj
    have hj' : j < 3 := hj
    have : j = 0 ∨ j = 1 ∨ j = 2 := by omega
    rcases this with rfl | rfl | rfl <;> simp [go_sem]

set_option maxHeartbeats 1000000 in
theorem walkA (a b c x p h s j : Int) (w : World) (ha : Word a) (hb : Word b) (hc : Word c) (hx : Word x)
  (hfit : a ≤ 18446744073709551615 - b)
  (hcase : ((a == 0) = true ∧ h = 0) ∨ (0 < a ∧ h = 0 ∧ b ≤ 18446744073709551615 / a) ∨ (0 < a ∧ h = 10 ∧ decide (b ≤ 18446744073709551615 / a) = false))
  (c1 : Hid (∀ w : World, Calls Try.prog 9 #[.int .u64 a, .int .u64 b] w fun e w' => e = .returned (.tuple #[.int .u64 x, .int .i64 0]) ∧ w' = w))
  (c2 : Hid (∀ w : World, Calls Try.prog 9 #[.int .u64 b, .int .u64 a] w fun e w' => e = .returned (.tuple #[.int .u64 x, .int .i64 0]) ∧ w' = w))
  (c3 : Hid (∀ w : World, Calls Try.prog 11 #[.int .u64 x, .int .u64 b] w fun e w' => e = .returned (.tuple #[.int .u64 a, .int .i64 0]) ∧ w' = w))
  (c4 : Hid (∀ w : World, Calls Try.prog 13 #[.int .u64 a, .int .u64 b] w fun e w' => e = .returned (.tuple #[.int .u64 p, .int .i64 h]) ∧ w' = w))
  (c5 : Hid (∀ w : World, Calls Try.prog 13 #[.int .u64 b, .int .u64 a] w fun e w' => e = .returned (.tuple #[.int .u64 p, .int .i64 h]) ∧ w' = w))
  (c6 : Hid (∀ (w : World) (B : Nat), w.heap.size = B → Calls Try.prog 17 #[.slice (some ⟨B, 0, none⟩) 3 3] (w.alloc (.cells #[.int .u64 a, .int .u64 b, .int .u64 c] 22)) fun e w' => e = .returned (.tuple #[.int .u64 s, .int .i64 j]) ∧ w' = w.alloc (.cells #[.int .u64 a, .int .u64 b, .int .u64 c] 22)))
  (c7 : Hid (∀ (w : World) (B : Nat), w.heap.size = B → Calls Try.prog 17 #[.slice (some ⟨B, 0, none⟩) 3 3] (w.alloc (.cells #[.int .u64 c, .int .u64 a, .int .u64 b] 22)) fun e w' => e = .returned (.tuple #[.int .u64 s, .int .i64 j]) ∧ w' = w.alloc (.cells #[.int .u64 c, .int .u64 a, .int .u64 b] 22)))
  (c8 : Hid (∀ w : World, Calls Try.prog 9 #[.int .u64 x, .int .u64 c] w fun e w' => e = .returned (.tuple #[.int .u64 s, .int .i64 j]) ∧ w' = w)) :
    Calls Try.prog 7 #[.int .u64 a, .int .u64 b, .int .u64 c] w fun e w' => e = .returned (.bool true) ∧ Grown w w' := by
  obtain ⟨a1, a2⟩ := ha; obtain ⟨b1, b2⟩ := hb; obtain ⟨x1, x2⟩ := hx
  rcases hcase with ⟨h0, rfl⟩ | ⟨hp, rfl, hq⟩ | ⟨hp, rfl, hq⟩
  all_goals
    go_enter Try.func7, Try.ntmps7
    go_wp2_with fail
    refine (c1.out _).mono ?_; rintro e w1 ⟨rfl, rfl⟩
    go_wp2_with fail
    refine (c2.out _).mono ?_; rintro e w2 ⟨rfl, rfl⟩
    go_wp2_with fail
    refine (c3.out _).mono ?_; rintro e w3 ⟨rfl, rfl⟩
    go_wp2_with fail
    refine (c4.out _).mono ?_; rintro e w4 ⟨rfl, rfl⟩
    go_wp2_with fail
    refine (c5.out _).mono ?_; rintro e w5 ⟨rfl, rfl⟩
    go_wp2_with fail
    refine (c6.out _ _ rfl).mono ?_; rintro e w6 ⟨rfl, rfl⟩
    go_wp2_with fail
    refine (c7.out _ _ (by simp)).mono ?_; rintro e w7 ⟨rfl, rfl⟩
    go_wp2_with fail
    refine (c8.out _).mono ?_; rintro e w8 ⟨rfl, rfl⟩
    go_wp2
    go_ret
    exact ⟨rfl, by repeat (first | exact Grown.refl _ | apply Grown.drew | apply Grown.alloc)⟩

set_option maxHeartbeats 1000000 in
theorem walkB (a b c p h s : Int) (w : World) (ha : Word a) (hb : Word b) (hc : Word c)
  (hfit : 18446744073709551615 - b < a)
  (hcase : ((a == 0) = true ∧ h = 0) ∨ (0 < a ∧ h = 0 ∧ b ≤ 18446744073709551615 / a) ∨ (0 < a ∧ h = 10 ∧ decide (b ≤ 18446744073709551615 / a) = false))
  (c1 : Hid (∀ w : World, Calls Try.prog 9 #[.int .u64 a, .int .u64 b] w fun e w' => e = .returned (.tuple #[.int .u64 0, .int .i64 10]) ∧ w' = w))
  (c2 : Hid (∀ w : World, Calls Try.prog 9 #[.int .u64 b, .int .u64 a] w fun e w' => e = .returned (.tuple #[.int .u64 0, .int .i64 10]) ∧ w' = w))
  (c4 : Hid (∀ w : World, Calls Try.prog 13 #[.int .u64 a, .int .u64 b] w fun e w' => e = .returned (.tuple #[.int .u64 p, .int .i64 h]) ∧ w' = w))
  (c5 : Hid (∀ w : World, Calls Try.prog 13 #[.int .u64 b, .int .u64 a] w fun e w' => e = .returned (.tuple #[.int .u64 p, .int .i64 h]) ∧ w' = w))
  (c6 : Hid (∀ (w : World) (B : Nat), w.heap.size = B → Calls Try.prog 17 #[.slice (some ⟨B, 0, none⟩) 3 3] (w.alloc (.cells #[.int .u64 a, .int .u64 b, .int .u64 c] 22)) fun e w' => e = .returned (.tuple #[.int .u64 s, .int .i64 10]) ∧ w' = w.alloc (.cells #[.int .u64 a, .int .u64 b, .int .u64 c] 22)))
  (c7 : Hid (∀ (w : World) (B : Nat), w.heap.size = B → Calls Try.prog 17 #[.slice (some ⟨B, 0, none⟩) 3 3] (w.alloc (.cells #[.int .u64 c, .int .u64 a, .int .u64 b] 22)) fun e w' => e = .returned (.tuple #[.int .u64 s, .int .i64 10]) ∧ w' = w.alloc (.cells #[.int .u64 c, .int .u64 a, .int .u64 b] 22))) :
    Calls Try.prog 7 #[.int .u64 a, .int .u64 b, .int .u64 c] w fun e w' => e = .returned (.bool true) ∧ Grown w w' := by
  obtain ⟨a1, a2⟩ := ha; obtain ⟨b1, b2⟩ := hb
  rcases hcase with ⟨h0, rfl⟩ | ⟨hp, rfl, hq⟩ | ⟨hp, rfl, hq⟩
  · simp at h0; omega
  all_goals
    go_enter Try.func7, Try.ntmps7
    go_wp2_with fail
    refine (c1.out _).mono ?_; rintro e w1 ⟨rfl, rfl⟩
    go_wp2_with fail
    refine (c2.out _).mono ?_; rintro e w2 ⟨rfl, rfl⟩
    go_wp2_with fail
    refine (c4.out _).mono ?_; rintro e w4 ⟨rfl, rfl⟩
    go_wp2_with fail
    refine (c5.out _).mono ?_; rintro e w5 ⟨rfl, rfl⟩
    go_wp2_with fail
    refine (c6.out _ _ rfl).mono ?_; rintro e w6 ⟨rfl, rfl⟩
    go_wp2_with fail
    refine (c7.out _ _ (by simp)).mono ?_; rintro e w7 ⟨rfl, rfl⟩
    go_wp2
    go_ret
    exact ⟨rfl, by repeat (first | exact Grown.refl _ | apply Grown.drew | apply Grown.alloc)⟩

theorem mul_case (a b : Int) (ha : Word a) (hb : Word b) :
    ((a == 0) = true ∧ mulE a b = 0) ∨ (0 < a ∧ mulE a b = 0 ∧ b ≤ 18446744073709551615 / a) ∨ (0 < a ∧ mulE a b = 10 ∧ decide (b ≤ 18446744073709551615 / a) = false) := by
  obtain ⟨a1, a2⟩ := ha; obtain ⟨b1, b2⟩ := hb
  unfold mulE
  by_cases h0 : a = 0
  · subst h0; left; simp
  · have hp : 0 < a := by omega
    right
    by_cases h : a * b < 18446744073709551616
    · left
      refine ⟨hp, if_pos h, ?_⟩
      rw [Int.le_ediv_iff_mul_le hp, Int.mul_comm]; omega
    · right
      refine ⟨hp, if_neg h, ?_⟩
      have hlt : 18446744073709551615 / a < b := by rw [Int.ediv_lt_iff_lt_mul hp, Int.mul_comm]; omega
      simp; omega

theorem sumL3 (a b c : Int) : sumL [a, b, c] = a + b + c := by simp [sumL]

/-- the walk. -/
theorem walk (a0 : Int) (a1 : Int) (a2 : Int) (w0 : (Lit.int .u64 a0).wf = true) (w1 : (Lit.int .u64 a1).wf = true) (w2 : (Lit.int .u64 a2).wf = true) (w : World) :
    Calls Try.prog 7 #[.int .u64 a0, .int .u64 a1, .int .u64 a2] w fun e w' => e = .returned (.bool true) ∧ Grown w w' := by
  have ha : Word a0 := by have := bounds_u64 w0; unfold Word; omega
  have hb : Word a1 := by have := bounds_u64 w1; unfold Word; omega
  have hc : Word a2 := by have := bounds_u64 w2; unfold Word; omega
  have ha' := ha; have hb' := hb; have hc' := hc
  obtain ⟨x1, x2⟩ := ha'; obtain ⟨y1, y2⟩ := hb'; obtain ⟨z1, z2⟩ := hc'
  have hs : sumV [a2, a0, a1] = sumV [a0, a1, a2] := by unfold sumV; rw [sumL3, sumL3, show a2 + a0 + a1 = a0 + a1 + a2 from by omega]
  have hj : sumE [a2, a0, a1] = sumE [a0, a1, a2] := by unfold sumE; rw [sumL3, sumL3, show a2 + a0 + a1 = a0 + a1 + a2 from by omega]
  have k4 := fun w => mul_any a0 a1 w ha hb
  have k5 := fun w => mul_any a1 a0 w hb ha
  have k6 := fun w B hB => sum3 a0 a1 a2 w B hB ha hb hc
  have k7 := fun w B hB => sum3 a2 a0 a1 w B hB hc ha hb
  rw [mulV_comm, mulE_comm] at k5
  rw [hs, hj] at k7
  by_cases h : a0 + a1 < 18446744073709551616
  · have k1 := fun w => add_any a0 a1 w ha hb
    have k2 := fun w => add_any a1 a0 w hb ha
    have hx : Word (a0 + a1) := by unfold Word; omega
    have k3 := fun w => sub_any (a0 + a1) a1 w hx hb
    have k8 := fun w => add_any (a0 + a1) a2 w hx hc
    have e1 : addV a0 a1 = a0 + a1 := if_pos h
    have e2 : addE a0 a1 = 0 := if_pos h
    have e3 : subV (a0 + a1) a1 = a0 := by unfold subV; rw [if_neg (by omega)]; omega
    have e4 : subE (a0 + a1) a1 = 0 := by unfold subE; rw [if_neg (by omega)]
    have e5 : addV (a0 + a1) a2 = sumV [a0, a1, a2] := by unfold addV sumV; rw [sumL3]
    have e6 : addE (a0 + a1) a2 = sumE [a0, a1, a2] := by unfold addE sumE; rw [sumL3]
    rw [addV_comm, addE_comm] at k2
    rw [e1, e2] at k1 k2
    rw [e3, e4] at k3
    rw [e5, e6] at k8
    exact walkA a0 a1 a2 (a0 + a1) (mulV a0 a1) (mulE a0 a1) (sumV [a0, a1, a2]) (sumE [a0, a1, a2]) w ha hb hc hx (by omega) (mul_case a0 a1 ha hb) k1 k2 k3 k4 k5 k6 k7 k8
  · have k1 := fun w => add_any a0 a1 w ha hb
    have k2 := fun w => add_any a1 a0 w hb ha
    have e1 : addV a0 a1 = 0 := if_neg h
    have e2 : addE a0 a1 = 10 := if_neg h
    have e6 : sumE [a0, a1, a2] = 10 := by unfold sumE; rw [sumL3, if_neg (by omega)]
    rw [addV_comm, addE_comm] at k2
    rw [e1, e2] at k1 k2
    rw [e6] at k6 k7
    exact walkB a0 a1 a2 (mulV a0 a1) (mulE a0 a1) (sumV [a0, a1, a2]) w ha hb hc (by omega) (mul_case a0 a1 ha hb) k1 k2 k4 k5 k6 k7

set_option maxRecDepth 100000 in
theorem lifted (os : Os) (started : os.Started) (H : Type) (enc : TypeId × Value → H) :
    ReturnsInHanded {} Try.checked os 7 .any (Rows.numSumsSpec.pre6 enc Try.prog Try.f7 Rows.numSumsRow.domain false) (Rows.numSumsSpec.post enc Try.prog Try.f7 false true false false) := by
  refine returnsInHanded_of_change (C := Try.checked) own started (by kernel_rfl) Try.func7
    (ChangeSpec.witness6 (enc := enc) (C := Try.checked) false ⟨#[], #[.int .u64 0, .int .u64 0, .int .u64 0], []⟩ 8 (by kernel_rfl) (by kernel_rfl) (by kernel_rfl) (by kernel_rfl)) ?_
  intro W base args ds gs before hval0 hW hcnd _
  have hval : ∀ (j : Nat) t v, Try.f7.params[j]? = some t → args[j]? = some v → Value.okWide Try.prog W .any base t v := hval0
  have hW' := hW
  obtain ⟨p, q, hA0, hV, rfl, hfz, hnd⟩ := hW
  have hA : DataW.TrodAll enc Try.prog W 0 (fun _ => true) true Try.f7.params.toList args.toList ds p := hA0
  rw [Try.params7] at hA hval
  obtain ⟨v0, vs0, d0, ds0, p0, q0, hargs, rfl, rfl, h0, r0⟩ := trodAll_cons hA
  obtain ⟨v1, vs1, d1, ds1, p1, q1, rfl, rfl, rfl, h1, r1⟩ := trodAll_cons r0
  obtain ⟨v2, vs2, d2, ds2, p2, q2, rfl, rfl, rfl, h2, r2⟩ := trodAll_cons r1
  obtain ⟨rfl, rfl, rfl⟩ := trodAll_nil r2
  obtain rfl : args = #[v0, v1, v2] := by cases args; simp_all
  obtain ⟨rfl, rfl⟩ := trodVars_none hV
  obtain ⟨a0, rfl, rfl, rfl, w0⟩ := open_int Try.underlying22 (hval 0 22 v0 rfl rfl) h0
  obtain ⟨a1, rfl, rfl, rfl, w1⟩ := open_int Try.underlying22 (hval 1 22 v1 rfl rfl) h1
  obtain ⟨a2, rfl, rfl, rfl, w2⟩ := open_int Try.underlying22 (hval 2 22 v2 rfl rfl) h2
  clear hA0 hval0
  simp only [List.append_nil] at hW'
  refine (walk a0 a1 a2 w0 w1 w2 W).mono fun e W' ⟨he, hg⟩ => ?_
  subst he
  exact ⟨_, rfl, post_of_same (pa := []) (pv := []) hW' (fun _ _ _ => (trodAll_cons_mk (shut_bool Try.underlying4 _) trodAll_mk0)) (fun sp _ => (trodAll_cons_mk (shut_int Try.underlying22 w0) (trodAll_cons_mk (shut_int Try.underlying22 w1) (trodAll_cons_mk (shut_int Try.underlying22 w2) trodAll_mk0)))) (fun _ _ => rfl) rfl
    (hg.frame _) hg.2.1 (ok_one (by kernel_rfl) rfl (okWide_bool_mk Try.underlying4 _))⟩

theorem over : Rows.numSumsRow.holds Try.pinned (OpenSpec.ofChange Rows.numSumsSpec) :=
  OpenClaim.holds_of_wide 7 Try.f7 rfl rfl rfl rfl rfl rfl rfl ⟨rfl, rfl, rfl, rfl, rfl⟩ rfl rfl rfl rfl rfl (by kernel_rfl) Try.func7 (by kernel_rfl)
    (of_decide_eq_true (by kernel_rfl)) (by unfold Func.isWrapper; first | (rw [if_pos (by decide +kernel)]; kernel_rfl) | (rw [if_neg (by decide +kernel)]; exact ⟨rfl, rfl⟩))
    (fun os started H enc _ => lifted os started H enc)

/-- the statement -/
theorem proved : Rows.NumSumsSaid :=
  over
end Go.Proofs.Ytcnbefggobgodaa.numSums
namespace Go.Proofs.Ytcnbefggobgodaa
theorem numSums_holds : Rows.NumSumsSaid := numSums.proved
#print axioms numSums_holds
end Go.Proofs.Ytcnbefggobgodaa
