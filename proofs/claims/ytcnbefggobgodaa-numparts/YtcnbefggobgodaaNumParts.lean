/-
  NumParts: Add, Sub, Mul and Part are the document's.
-/
import Derived.Test.YtcnbefggobgodaaBigJ
import Derived.ProofKit
import Derived.OpenShut
import Derived.Lib.SmallJoins
namespace Go.Proofs.Ytcnbefggobgodaa.numParts
open Go.ChangeShapes Go.WideShapes Go.ChangeAt Go.RowKit Go.Joins
set_option linter.unusedVariables false

theorem own : ownKnob Try.prog.godebug = none := by kernel_rfl
theorem cells24 : Try.prog.cellsOf 24 = 4 := by kernel_rfl

/-- the box of the four. -/
def Box (wr : World) (B : Nat) (a b c r : Int) : Prop :=
  B < wr.heap.size ∧ wr.cell? ⟨B, 0, none⟩ = some (.int .u64 a) ∧ wr.cell? ⟨B, 1, none⟩ = some (.int .u64 b) ∧ wr.cell? ⟨B, 2, none⟩ = some (.int .u64 c) ∧ wr.cell? ⟨B, 3, none⟩ = some (.int .i64 r)
theorem Box.to {w w' : World} {B : Nat} {a b c r : Int} (h : Box w B a b c r) (hb : Below w.heap.size w w') : Box w' B a b c r := by
  obtain ⟨h0, h1, h2, h3, h4⟩ := h
  exact ⟨Nat.lt_of_lt_of_le h0 hb.size, (hb.cell h0).trans h1, (hb.cell h0).trans h2, (hb.cell h0).trans h3, (hb.cell h0).trans h4⟩

theorem add12 (w : World) : Calls Try.prog 9 #[.int .u64 1, .int .u64 2] w fun e w' => e = .returned (.tuple #[.int .u64 3, .int .i64 0]) ∧ w' = w :=
  add_any 1 2 w ⟨by decide, by decide⟩ ⟨by decide, by decide⟩

set_option maxHeartbeats 2000000 in
set_option maxRecDepth 100000 in
theorem walk (a b c r : Int) (w : World) (ha : Word a) (hb : Word b) (hc : Word c) :
    Calls Try.prog 3 #[.agg #[.int .u64 a, .int .u64 b, .int .u64 c, .int .i64 r]] w fun e w' => e = .returned (.bool true) ∧ Below w.heap.size w w' := by
  have HA := hid ha
  have HB := hid hb
  have HC := hid hc
  clear ha hb hc
  go_enter Try.func3, Try.ntmps3
  go_wp2_with fail
  refine (add_any a b _ HA.out HB.out).mono ?_
  rintro e w1 ⟨rfl, rfl⟩
  go_wp2_with fail
  refine (refAdd_any a b _ HA.out HB.out).mono ?_
  rintro e w1 ⟨rfl, h⟩
  have M1 := hid (((Below.refl w.heap.size w).alloc (Nat.le_refl _) (.cells #[.int .u64 a, .int .u64 b, .int .u64 c, .int .i64 r] 24)).trans (h.mono (by simp)))
  have X1 := hid ((show Box (w.alloc (.cells #[.int .u64 a, .int .u64 b, .int .u64 c, .int .i64 r] 24)) w.heap.size a b c r from by simp [Box, go_sem]).to h)
  obtain ⟨-, f0, f1, f2, f3⟩ := X1.out
  clear h
  go_wp2_with fail
  refine (sub_any a b _ HA.out HB.out).mono ?_
  rintro e w1' ⟨rfl, rfl⟩
  go_wp2_with fail
  refine (refSub_any a b _ HA.out HB.out).mono ?_
  rintro e w1' ⟨rfl, rfl⟩
  go_wp2_with fail
  refine (mul_any a b _ HA.out HB.out).mono ?_
  rintro e w1' ⟨rfl, rfl⟩
  go_wp2_with fail
  refine (refMul_any a b _ HA.out HB.out).mono ?_
  rintro e w2 ⟨rfl, h⟩
  have M2 := hid (M1.out.trans (h.mono M1.out.size))
  have X2 := hid (X1.out.to h)
  clear f0 f1 f2 f3 h
  obtain ⟨-, f0, f1, f2, f3⟩ := X2.out
  go_wp2_with fail
  refine (numPart_any a b c r _ HA.out HB.out HC.out).mono ?_
  rintro e w3 ⟨rfl, h⟩
  have M3 := hid (M2.out.trans (h.mono M2.out.size))
  have X3 := hid (X2.out.to h)
  clear f0 f1 f2 f3 h
  obtain ⟨-, f0, f1, f2, f3⟩ := X3.out
  go_wp2_with fail
  refine (refPart_any a b c r _ HA.out HB.out HC.out).mono ?_
  rintro e w4 ⟨rfl, h⟩
  have M4 := hid (M3.out.trans (h.mono M3.out.size))
  clear f0 f1 f2 f3 h
  go_wp2_with fail
  refine (add12 _).mono ?_
  rintro e w5 ⟨rfl, rfl⟩
  go_wp2
  go_ret
  exact ⟨rfl, M4.out⟩

set_option maxRecDepth 100000 in
theorem lifted (os : Os) (started : os.Started) (H : Type) (enc : TypeId × Value → H) :
    ReturnsInHanded {} Try.checked os 3 .any (Rows.numPartsSpec.pre6 enc Try.prog Try.f3 Rows.numPartsRow.domain false) (Rows.numPartsSpec.post enc Try.prog Try.f3 false true false false) := by
  refine returnsInHanded_of_change (C := Try.checked) own started (by kernel_rfl) Try.func3
    (ChangeSpec.witness6 (enc := enc) (C := Try.checked) false ⟨#[], #[.agg #[.int .u64 0, .int .u64 0, .int .u64 0, .int .i64 0]], []⟩ 8 (by kernel_rfl) (by kernel_rfl) (by kernel_rfl) (by kernel_rfl)) ?_
  intro W base args ds gs before hval0 hW hcnd _
  have hval : ∀ (j : Nat) t v, Try.f3.params[j]? = some t → args[j]? = some v → Value.okWide Try.prog W .any base t v := hval0
  have hW' := hW
  obtain ⟨p, q, hA0, hV, rfl, hfz, hnd⟩ := hW
  have hA : DataW.TrodAll enc Try.prog W 0 (fun _ => true) true Try.f3.params.toList args.toList ds p := hA0
  rw [Try.params3] at hA hval
  obtain ⟨v0, d0, rfl, rfl, h0⟩ := trodAll_one hA
  obtain ⟨rfl, rfl⟩ := trodVars_none hV
  obtain ⟨c0, c1, c2, c3, y0, y1, y2, y3, m, rfl, rfl, rfl, hy0, hy1, hy2, hy3⟩ := open_agg4 Try.underlying24 (by kernel_rfl) cells24 (hval 0 24 v0 rfl rfl) h0
  obtain ⟨a, e0, rfl, wa⟩ := DataW.trod_int Try.underlying22 hy0
  obtain ⟨b, e1, rfl, wb⟩ := DataW.trod_int Try.underlying22 hy1
  obtain ⟨c, e2, rfl, wc⟩ := DataW.trod_int Try.underlying22 hy2
  obtain ⟨r, e3, rfl, wr⟩ := DataW.trod_int Try.underlying3 hy3
  simp at e0 e1 e2 e3
  subst e0 e1 e2 e3
  clear hA0 hval0
  simp only [List.append_nil] at hW'
  have structReads : ∀ (W' : World) (sp : Nat → Bool), DataW.Trod enc Try.prog W' 0 sp true 24 (.agg #[.int .u64 a, .int .u64 b, .int .u64 c, .int .i64 r]) (.agg [.lit (.int .u64 a), .lit (.int .u64 b), .lit (.int .u64 c), .lit (.int .i64 r)]) [] := fun W' sp =>
    shut_agg4 (y0 := (.lit (.int .u64 a), [])) (y1 := (.lit (.int .u64 b), [])) (y2 := (.lit (.int .u64 c), [])) (y3 := (.lit (.int .i64 r), [])) Try.underlying24 (by kernel_rfl) cells24 ⟨1, by simp [DataW.trod, Try.underlying22, wa]⟩ ⟨1, by simp [DataW.trod, Try.underlying22, wb]⟩ ⟨1, by simp [DataW.trod, Try.underlying22, wc]⟩ ⟨1, by simp [DataW.trod, Try.underlying3, wr]⟩
  have ha : Word a := by have := bounds_u64 wa; unfold Word; omega
  have hb : Word b := by have := bounds_u64 wb; unfold Word; omega
  have hc : Word c := by have := bounds_u64 wc; unfold Word; omega
  refine (walk a b c r W ha hb hc).mono fun e W' ⟨he, bel⟩ => ?_
  subst he
  exact ⟨_, rfl, _, _, _, [], [], [], hW', trodAll_mk1 (shut_bool Try.underlying4 _), trodAll_mk1 (structReads _ _), rfl, bel.frame _, fun h => by cases h⟩

theorem over : Rows.numPartsRow.holds Try.pinned (OpenSpec.ofChange Rows.numPartsSpec) :=
  OpenClaim.holds_of_wide 3 Try.f3 rfl rfl rfl rfl rfl rfl rfl ⟨rfl, rfl, rfl, rfl, rfl⟩ rfl rfl rfl rfl rfl (by kernel_rfl) Try.func3 (by kernel_rfl)
    (of_decide_eq_true (by kernel_rfl)) (by unfold Func.isWrapper; first | (rw [if_pos (by decide +kernel)]; kernel_rfl) | (rw [if_neg (by decide +kernel)]; exact ⟨rfl, rfl⟩))
    (fun os started H enc _ => lifted os started H enc)

/-- the statement -/
theorem proved : Rows.NumPartsSaid :=
  over
end Go.Proofs.Ytcnbefggobgodaa.numParts
namespace Go.Proofs.Ytcnbefggobgodaa
theorem numParts_holds : Rows.NumPartsSaid := numParts.proved
#print axioms numParts_holds
end Go.Proofs.Ytcnbefggobgodaa
