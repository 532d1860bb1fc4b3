/-
  MoneyAdds: the row.
-/
import Derived.Test.YtcnbefggobgodabRows
import Derived.Test.YtcnbefggobgodabLawA1
import Derived.Test.YtcnbefggobgodabLawA2
import Derived.Test.YtcnbefggobgodabLawB
import Derived.Test.YtcnbefggobgodabParC
import Derived.ProofKit
import Derived.OpenShut
import Derived.Lib.SmallJoins
namespace Go.Proofs.Ytcnbefggobgodab.moneyAdds
open Go.ChangeShapes Go.WideShapes Go.ChangeAt Go.RowKit Go.Joins Go.Deep MonM TexM ParM
set_option linter.unusedVariables false

/-- what two words say: an amount, or none. -/
theorem arg_any (H L : Int) (h0 : 0 ≤ H) (h1 : H < 18446744073709551616) (l0 : 0 ≤ L) (l1 : L < 18446744073709551616) :
    ∃ x E, Amt x ∧ (∀ w : World, Calls Try.prog 8 #[.agg #[.int .u64 H, .int .u64 L]] w fun e w' => e = .returned (.tuple #[mv x, .int .i64 E]) ∧ Below w.heap.size w w') ∧
      ((E = 0 ∧ H = hiW x ∧ L = loW x) ∨ (E = 3 ∧ H = 9223372036854775808 ∧ L = 0 ∧ x = 0)) ∧ (E == 0) = !(H == 9223372036854775808 && L == 0) := by
  by_cases h : H = 9223372036854775808 ∧ L = 0
  · obtain ⟨rfl, rfl⟩ := h
    exact ⟨0, 3, by unfold Amt; omega, fun w => fromWords_no w, Or.inr ⟨rfl, rfl, rfl, rfl⟩, rfl⟩
  · obtain ⟨x, hx, e1, e2⟩ : ∃ x, Amt x ∧ hiW x = H ∧ loW x = L := by
      by_cases hh : H < 9223372036854775808
      · exact ⟨H * 18446744073709551616 + L, by unfold Amt; omega, words_of _ H L h0 h1 l0 l1 (Or.inl rfl)⟩
      · exact ⟨H * 18446744073709551616 + L - 340282366920938463463374607431768211456, by unfold Amt; omega, words_of _ H L h0 h1 l0 l1 (Or.inr (Or.inl (by omega)))⟩
    refine ⟨x, 0, hx, fun w => ?_, Or.inl ⟨rfl, e1.symm, e2.symm⟩, ?_⟩
    · unfold mv
      rw [e1, e2]
      exact fromWords_yes H L w h
    · by_cases a : H = 9223372036854775808
      · have b : ¬ L = 0 := fun b => h ⟨a, b⟩
        simp [b]
      · simp [a]

theorem fp_any (x : Int) (hx : Amt x) : ∀ (xs : List Int) (w : World), IsText x xs → Calls Try.prog 15 #[.string (strOfNums xs)] w fun e w' => e = .returned (.tuple #[mv x, .int .i64 0]) ∧ Below w.heap.size w w' := by
  intro xs w ht
  have hb := text_bytes x xs ht
  have hn := nums_strOfNums xs hb
  have hl := text_size x hx xs ht
  have hsz : (strOfNums xs).size = xs.length := by rw [← nums_len, hn]
  refine (parse_any (strOfNums xs) w (by unfold maxLen; omega)).mono ?_
  rintro e w' ⟨⟨m, hm, ht2, rfl⟩ | ⟨no, rfl⟩, hbl⟩
  · rw [hn] at ht2
    rw [text_inj m x hm hx xs ht2 ht]
    exact ⟨rfl, hbl⟩
  · exact absurd (by rw [hn]; exact ht) (no x hx)

theorem walk (A0 A1 B0 B1 C0 C1 : Int) (w : World) (a0 : 0 ≤ A0 ∧ A0 < 18446744073709551616) (a1 : 0 ≤ A1 ∧ A1 < 18446744073709551616) (b0 : 0 ≤ B0 ∧ B0 < 18446744073709551616) (b1 : 0 ≤ B1 ∧ B1 < 18446744073709551616) (c0 : 0 ≤ C0 ∧ C0 < 18446744073709551616) (c1 : 0 ≤ C1 ∧ C1 < 18446744073709551616) :
    Calls Try.prog 4 #[.agg #[.int .u64 A0, .int .u64 A1], .agg #[.int .u64 B0, .int .u64 B1], .agg #[.int .u64 C0, .int .u64 C1]] w fun e w' => e = .returned (.bool true) ∧ Below w.heap.size w w' := by
  obtain ⟨x, Ea, hx, fa, hA, na⟩ := arg_any A0 A1 a0.1 a0.2 a1.1 a1.2
  obtain ⟨y, Eb, hy, fb, _, nb⟩ := arg_any B0 B1 b0.1 b0.2 b1.1 b1.2
  obtain ⟨z, Ec, hz, fc, _, nc⟩ := arg_any C0 C1 c0.1 c0.2 c1.1 c1.2
  have hs := madd_amt x y
  have FP := fp_any x hx
  by_cases hxy : -170141183460469231731687303715884105727 ≤ x + y ∧ x + y ≤ 170141183460469231731687303715884105727
  · by_cases hyz : -170141183460469231731687303715884105727 ≤ y + z ∧ y + z ≤ 170141183460469231731687303715884105727
    · exact lawA1 A0 A1 B0 B1 C0 C1 x y z Ea Eb Ec w hx hy hz hs hA FP fa fb fc na nb nc hxy (if_pos hyz)
    · exact lawA2 A0 A1 B0 B1 C0 C1 x y z Ea Eb Ec w hx hy hz hs hA FP fa fb fc na nb nc hxy (by have : maddE y z = 10 := if_neg hyz; rw [this]; rfl)
  · exact lawB A0 A1 B0 B1 C0 C1 x y z Ea Eb Ec w hx hy hz hs hA FP fa fb fc na nb nc (by have : maddE x y = 10 := if_neg hxy; rw [this]; rfl)

section arrays
variable {H : Type} {enc : TypeId × Value → H} {P : Program} {w : World} {base : Nat} {spare : Nat → Bool} {held : Bool}
theorem open_two {r : Reach} {b0 : Nat} {t e : TypeId} {v : Value} {d : DataW H} {p : List MemPlace} (ht : P.underlying t = some (.array 2 e)) (hC : P.cellsOf t = 2) (hce : P.cellsOf e = 1)
    (hv : Value.okWide P w r b0 t v) (h : DataW.Trod enc P w base spare held t v d p) :
    ∃ (v0 v1 : Value) (y0 y1 : DataW H × List MemPlace) (n : Nat), v = .agg #[v0, v1] ∧ d = .agg [y0.1, y1.1] ∧ p = y0.2 ++ y1.2 ∧
      DataW.trod enc P w base spare held n e [v0] = some y0 ∧ DataW.trod enc P w base spare held n e [v1] = some y1 := by
  simp only [Value.okWide, ht] at hv
  obtain ⟨cs, rfl, hsz, _⟩ := hv
  obtain ⟨c0, c1, rfl⟩ := array2 (hsz.trans hC)
  obtain ⟨fuel, hf⟩ := h
  cases fuel with
  | zero => simp [DataW.trod] at hf
  | succ n =>
    unfold DataW.trod at hf
    rw [ht] at hf
    have r2 : List.range 2 = [0, 1] := rfl
    simp [r2, hce, Value.cells] at hf
    obtain ⟨_, hf⟩ := hf
    cases h0 : DataW.trod enc P w base spare held n e [c0] with
    | none => simp [h0] at hf
    | some y0 =>
      cases h1 : DataW.trod enc P w base spare held n e [c1] with
      | none => simp [h0, h1] at hf
      | some y1 =>
        simp [h0, h1] at hf
        exact ⟨c0, c1, y0, y1, n, rfl, hf.1.symm, hf.2.symm, h0, h1⟩
theorem shut_two {t e : TypeId} {a b : Int} (ht : P.underlying t = some (.array 2 e)) (hC : P.cellsOf t = 2) (hce : P.cellsOf e = 1)
    (h0 : ∀ n, DataW.trod enc P w base spare held (n + 1) e [.int .u64 a] = some (.lit (.int .u64 a), [])) (h1 : ∀ n, DataW.trod enc P w base spare held (n + 1) e [.int .u64 b] = some (.lit (.int .u64 b), [])) :
    DataW.Trod enc P w base spare held t (.agg #[.int .u64 a, .int .u64 b]) (.agg [.lit (.int .u64 a), .lit (.int .u64 b)]) [] := by
  refine ⟨2, ?_⟩
  unfold DataW.trod
  rw [ht]
  have r2 : List.range 2 = [0, 1] := rfl
  simp [r2, hC, hce, Value.cells, h0 0, h1 0]
end arrays

theorem own : ownKnob Try.prog.godebug = none := by kernel_rfl
theorem cells31 : Try.prog.cellsOf 31 = 2 := by kernel_rfl
theorem cells22 : Try.prog.cellsOf 22 = 1 := by kernel_rfl

set_option maxRecDepth 100000 in
theorem lifted (os : Os) (started : os.Started) (H : Type) (enc : TypeId × Value → H) :
    ReturnsInHanded {} Try.checked os 4 .any (Rows.moneyAddsSpec.pre6 enc Try.prog Try.f4 Rows.moneyAddsRow.domain false) (Rows.moneyAddsSpec.post enc Try.prog Try.f4 false true false false) := by
  refine returnsInHanded_of_change (C := Try.checked) own started (by kernel_rfl) Try.func4
    (ChangeSpec.witness6 (enc := enc) (C := Try.checked) false ⟨#[], #[.agg #[.int .u64 0, .int .u64 0], .agg #[.int .u64 0, .int .u64 0], .agg #[.int .u64 0, .int .u64 0]], []⟩ 8 (by kernel_rfl) (by kernel_rfl) (by kernel_rfl) (by kernel_rfl)) ?_
  intro W base args ds gs before hval0 hW hcnd _
  have hval : ∀ (j : Nat) t v, Try.f4.params[j]? = some t → args[j]? = some v → Value.okWide Try.prog W .any base t v := hval0
  have hW' := hW
  obtain ⟨p, q, hA0, hV, rfl, hfz, hnd⟩ := hW
  have hA : DataW.TrodAll enc Try.prog W 0 (fun _ => true) true Try.f4.params.toList args.toList ds p := hA0
  rw [Try.params4] at hA hval
  obtain ⟨v0, v1, v2, d0, d1, d2, p0, p1, p2, rfl, rfl, rfl, h0, h1, h2⟩ := trodAll_three hA
  obtain ⟨rfl, rfl⟩ := trodVars_none hV
  obtain ⟨x0, x1, y0, y1, m, rfl, rfl, rfl, hx0, hx1⟩ := open_two Try.underlying31 cells31 cells22 (hval 0 31 v0 rfl rfl) h0
  obtain ⟨x2, x3, y2, y3, m2, rfl, rfl, rfl, hx2, hx3⟩ := open_two Try.underlying31 cells31 cells22 (hval 1 31 v1 rfl rfl) h1
  obtain ⟨x4, x5, y4, y5, m3, rfl, rfl, rfl, hx4, hx5⟩ := open_two Try.underlying31 cells31 cells22 (hval 2 31 v2 rfl rfl) h2
  obtain ⟨A0, e0, rfl, wa0⟩ := DataW.trod_int Try.underlying22 hx0
  obtain ⟨A1, e1, rfl, wa1⟩ := DataW.trod_int Try.underlying22 hx1
  obtain ⟨B0, e2, rfl, wb0⟩ := DataW.trod_int Try.underlying22 hx2
  obtain ⟨B1, e3, rfl, wb1⟩ := DataW.trod_int Try.underlying22 hx3
  obtain ⟨C0, e4, rfl, wc0⟩ := DataW.trod_int Try.underlying22 hx4
  obtain ⟨C1, e5, rfl, wc1⟩ := DataW.trod_int Try.underlying22 hx5
  simp at e0 e1 e2 e3 e4 e5
  subst e0 e1 e2 e3 e4 e5
  clear hA0 hval0
  simp only [List.append_nil] at hW'
  have word : ∀ {a : Int}, (Lit.int .u64 a).wf = true → 0 ≤ a ∧ a < 18446744073709551616 := fun h => by have := bounds_u64 h; omega
  have reads : ∀ (W' : World) (sp : Nat → Bool) (a b : Int), (Lit.int .u64 a).wf = true → (Lit.int .u64 b).wf = true → DataW.Trod enc Try.prog W' 0 sp true 31 (.agg #[.int .u64 a, .int .u64 b]) (.agg [.lit (.int .u64 a), .lit (.int .u64 b)]) [] := fun W' sp a b ha hb =>
    shut_two Try.underlying31 cells31 cells22 (fun n => by simp [DataW.trod, Try.underlying22, ha]) (fun n => by simp [DataW.trod, Try.underlying22, hb])
  refine (walk A0 A1 B0 B1 C0 C1 W (word wa0) (word wa1) (word wb0) (word wb1) (word wc0) (word wc1)).mono fun e W' ⟨he, bel⟩ => ?_
  subst he
  exact ⟨_, rfl, _, _, _, [], [], [], hW', trodAll_mk1 (shut_bool Try.underlying4 _), trodAll_mk3 (reads _ _ _ _ wa0 wa1) (reads _ _ _ _ wb0 wb1) (reads _ _ _ _ wc0 wc1), rfl, bel.frame _, fun h => by cases h⟩

theorem over : Rows.moneyAddsRow.holds Try.pinned (OpenSpec.ofChange Rows.moneyAddsSpec) :=
  OpenClaim.holds_of_wide 4 Try.f4 rfl rfl rfl rfl rfl rfl rfl ⟨rfl, rfl, rfl, rfl, rfl⟩ rfl rfl rfl rfl rfl (by kernel_rfl) Try.func4 (by kernel_rfl)
    (of_decide_eq_true (by kernel_rfl)) (by unfold Func.isWrapper; first | (rw [if_pos (by decide +kernel)]; kernel_rfl) | (rw [if_neg (by decide +kernel)]; exact ⟨rfl, rfl⟩))
    (fun os started H enc _ => lifted os started H enc)

/-- the statement -/
theorem proved : Rows.MoneyAddsSaid :=
  over
end Go.Proofs.Ytcnbefggobgodab.moneyAdds
namespace Go.Proofs.Ytcnbefggobgodab
theorem moneyAdds_holds : Rows.MoneyAddsSaid := moneyAdds.proved
#print axioms moneyAdds_holds
end Go.Proofs.Ytcnbefggobgodab
