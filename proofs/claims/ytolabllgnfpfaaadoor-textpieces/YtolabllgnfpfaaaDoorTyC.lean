/-
  text.isTrail.
-/
import Derived.Test.YtolabllgnfpfaaaDoorTyB
namespace Go.Proofs.YtolabllgnfpfaaaDoor
open Go.RowKit Go.Deep Go.Lib Go.Shelf Go.Sort
set_option linter.unusedVariables false

def form : List UInt8 := [49, 48, 61, 48, 48, 48, 1]
theorem form_len : form.length = 7 := rfl
/-- a byte of a check sum's field. -/
def TrAt (i : Nat) (c : UInt8) : Prop := (3 ≤ i ∧ i ≤ 5 ∧ Dig c) ∨ form[i]? = some c
/-- seven bytes that are a check sum's field. -/
def TrailOk (s : List UInt8) : Prop := ∀ i (h : i < s.length), TrAt i s[i]
noncomputable instance (s : List UInt8) : Decidable (TrailOk s) := Classical.propDecidable _

set_option maxHeartbeats 2000000 in
set_option maxRecDepth 100000 in
/-- text.isTrail. -/
theorem istrail_any (l : List UInt8) (w : World) (h7 : l.length = 7) :
    Calls Tryd.prog 31 #[.string ⟨l.toArray⟩] w fun e w' => e = .returned (.bool (decide (TrailOk l))) ∧ Below w.heap.size w w' := by
  have hl7 : (l.length : Int) = 7 := by omega
  have H7 := hid h7
  go_enter Tryd.func31, Tryd.ntmps31
  go_wp2_with fail
  go_loopw [6] (fun iv wr => ∃ k : Nat, k ≤ 7 ∧ iv = .int .i64 k ∧ Hid (Below w.heap.size w wr) ∧ Hid (∀ i (h : i < l.length), i < k → TrAt i l[i])) (fun iv _ => 7 - (RowKit.intOf iv).toNat)
  case atStart => exact ⟨0, by omega, rfl, Below.refl _ _, fun i h hi => by omega⟩
  case round =>
    obtain ⟨k, hk, rfl, HB, HN⟩ := hrel
    by_cases hlt : k < 7
    · obtain ⟨c, hc⟩ : ∃ c, l[k]'(by omega) = c := ⟨_, rfl⟩
      have hx : ∀ h : k < (⟨l.toArray⟩ : ByteArray).size, (⟨l.toArray⟩ : ByteArray)[k] = c := fun h => by rw [ba_at l k (by omega) h, hc]
      obtain ⟨d, hd⟩ : ∃ d, form[k]'(by rw [form_len]; omega) = d := ⟨_, rfl⟩
      have hy : ∀ h : k < (⟨#[49, 48, 61, 48, 48, 48, 1]⟩ : ByteArray).size, (⟨#[49, 48, 61, 48, 48, 48, 1]⟩ : ByteArray)[k] = d := fun h => (ba_at form k (by rw [form_len]; omega) h).trans hd
      have hsz : (⟨#[49, 48, 61, 48, 48, 48, 1]⟩ : ByteArray).size = 7 := rfl
      have hfo : form[k]? = some d := by rw [List.getElem?_eq_getElem (by rw [form_len]; omega), hd]
      have i0 : (0 : Int) ≤ (k : Int) := by omega
      have i1 : (k : Int) < 7 := by omega
      have ID := hid (isdigit_any c)
      have go : ∀ (ht : TrAt k c), Hid (∀ i (h : i < l.length), i < k + 1 → TrAt i l[i]) := fun ht => hid (fun i h hi => by
        by_cases he : i = k
        · subst he; rw [hc]; exact ht
        · exact HN.out i h (by omega))
      have GO := hid go
      have NO := hid (show ¬ TrAt k c → ¬ TrailOk l from fun hn h => hn (by have := h k (by omega); rwa [hc] at this))
      have HFO := hid hfo
      clear go hc hd hfo
      by_cases hmid : 3 ≤ k ∧ k ≤ 5
      · have m1 : (3 : Int) ≤ (k : Int) := by omega
        have m2 : (k : Int) ≤ 5 := by omega
        by_cases hdg : Dig c
        · rw [decide_eq_true hdg] at ID
          have HN2 := GO.out (Or.inl ⟨hmid.1, hmid.2, hdg⟩)
          clear hdg
          go_wp2_with (go_at_call 39; refine (ID.out _).mono ?_; rintro e w1 ⟨rfl, hw⟩; subst hw)
          go_roundw
          case rel => exact ⟨k + 1, by omega, by go_num, HB, HN2⟩
          case measure => simp [RowKit.intOf]; omega
        · rw [decide_eq_false hdg] at ID
          by_cases hcd : c = d
          · subst hcd
            have HN2 := GO.out (Or.inr HFO.out)
            clear hdg
            go_wp2_with (go_at_call 39; refine (ID.out _).mono ?_; rintro e w1 ⟨rfl, hw⟩; subst hw)
            go_quiet (fail)
            go_wp2
            go_roundw
            case rel => exact ⟨k + 1, by omega, by go_num, hid (HB.out.trans ⟨rfl, rfl, rfl, Nat.le_refl _, fun _ _ => rfl⟩), HN2⟩
            case measure => simp [RowKit.intOf]; omega
          · have NT := NO.out (by rintro (h | h); exact hdg h.2.2; exact hcd (by rw [HFO.out] at h; simpa using h.symm))
            have hne : ((c.toNat : Int) != (d.toNat : Int)) = true := by
              simp
              intro e
              exact hcd (UInt8.toNat_inj.1 (by omega))
            have HNT := hid NT
            clear hdg hcd NT
            go_wp2_with (go_at_call 39; refine (ID.out _).mono ?_; rintro e w1 ⟨rfl, hw⟩; subst hw)
            go_quiet (fail)
            go_wp2
            go_ret
            exact ⟨by rw [decide_eq_false HNT.out]; rfl, HB.out.trans ⟨rfl, rfl, rfl, Nat.le_refl _, fun _ _ => rfl⟩⟩
      · by_cases m1 : (3 : Int) ≤ (k : Int)
        · have m2 : ¬ ((k : Int) ≤ 5) := by omega
          by_cases hcd : c = d
          · subst hcd
            have HN2 := GO.out (Or.inr HFO.out)
            go_wp2_with fail
            go_quiet (fail)
            go_wp2
            go_roundw
            case rel => exact ⟨k + 1, by omega, by go_num, hid (HB.out.trans ⟨rfl, rfl, rfl, Nat.le_refl _, fun _ _ => rfl⟩), HN2⟩
            case measure => simp [RowKit.intOf]; omega
          · have HNT := hid (NO.out (by rintro (h | h); exact hmid ⟨h.1, h.2.1⟩; exact hcd (by rw [HFO.out] at h; simpa using h.symm)))
            have hne : ((c.toNat : Int) != (d.toNat : Int)) = true := by
              simp
              intro e
              exact hcd (UInt8.toNat_inj.1 (by omega))
            clear hcd
            go_wp2_with fail
            go_quiet (fail)
            go_wp2
            go_ret
            exact ⟨by rw [decide_eq_false HNT.out]; rfl, HB.out.trans ⟨rfl, rfl, rfl, Nat.le_refl _, fun _ _ => rfl⟩⟩
        · skip
          by_cases hcd : c = d
          · subst hcd
            have HN2 := GO.out (Or.inr HFO.out)
            go_wp2_with fail
            go_quiet (fail)
            go_wp2
            go_roundw
            case rel => exact ⟨k + 1, by omega, by go_num, hid (HB.out.trans ⟨rfl, rfl, rfl, Nat.le_refl _, fun _ _ => rfl⟩), HN2⟩
            case measure => simp [RowKit.intOf]; omega
          · have HNT := hid (NO.out (by rintro (h | h); exact hmid ⟨h.1, h.2.1⟩; exact hcd (by rw [HFO.out] at h; simpa using h.symm)))
            have hne : ((c.toNat : Int) != (d.toNat : Int)) = true := by
              simp
              intro e
              exact hcd (UInt8.toNat_inj.1 (by omega))
            clear hcd
            go_wp2_with fail
            go_quiet (fail)
            go_wp2
            go_ret
            exact ⟨by rw [decide_eq_false HNT.out]; rfl, HB.out.trans ⟨rfl, rfl, rfl, Nat.le_refl _, fun _ _ => rfl⟩⟩
    · have HT := hid (show TrailOk l from fun i h => HN.out i h (by omega))
      have hk7 : ¬ ((k : Int) < 7) := by omega
      go_wp2
      go_ret
      exact ⟨by rw [decide_eq_true HT.out]; rfl, HB.out⟩
end Go.Proofs.YtolabllgnfpfaaaDoor
