/-
  The document's Value, Natural, Number; the law's tags.
-/
import Derived.Test.YtolabllgnfpfaaaDoorTxB
namespace Go.Proofs.YtolabllgnfpfaaaDoor
open Go.RowKit Go.Deep Go.Lib Go.Shelf Go.Sort
set_option linter.unusedVariables false

theorem ba_at (l : List UInt8) (k : Nat) (hk : k < l.length) (h : k < (⟨l.toArray⟩ : ByteArray).size) : (⟨l.toArray⟩ : ByteArray)[k] = l[k] := by
  simp [ByteArray.getElem_eq_getElem_data]

set_option maxHeartbeats 4000000 in
set_option maxRecDepth 100000 in
/-- the document's Natural. -/
theorem natural_any (l : List UInt8) (w : World) (hl : l.length < 9223372036854775808) :
    Calls Tryd.prog 47 #[.string ⟨l.toArray⟩] w fun e w' => e = .returned (.tuple #[.int .u64 (((nat? l).getD 0 : Nat) : Int), .bool (nat? l).isSome]) ∧ w' = w := by
  by_cases hb : l.length < 1 ∨ 20 < l.length ∨ (1 < l.length ∧ l.head? = some 48)
  · have hn : nat? l = none := by unfold nat?; rw [if_pos hb]
    rw [hn]
    by_cases h1 : l.length < 1
    · obtain rfl : l = [] := List.length_eq_zero_iff.1 (by omega)
      clear hb hn
      go_enter Tryd.func47, Tryd.ntmps47
      go_wp2
      go_ret2
      exact ⟨by simp, rfl⟩
    · by_cases h2 : 20 < l.length
      · clear hb hn
        have f1 : ¬ ((l.length : Int) < 1) := by omega
        have f2 : (20 : Int) < (l.length : Int) := by omega
        go_enter Tryd.func47, Tryd.ntmps47
        go_wp2
        go_ret2
        exact ⟨by simp, rfl⟩
      · have h3 : 1 < l.length ∧ l.head? = some 48 := by rcases hb with h | h | h; omega; omega; exact h
        obtain ⟨h4, h5⟩ := h3
        obtain ⟨r, rfl⟩ : ∃ r, l = 48 :: r := by cases l; simp at h5; simp at h5; exact ⟨_, by rw [h5]⟩
        have f1 : ¬ ((((48 :: r : List UInt8)).length : Int) < 1) := by omega
        have f2 : ¬ ((20 : Int) < ((48 :: r : List UInt8).length : Int)) := by omega
        have f3 : (1 : Int) < ((48 :: r : List UInt8).length : Int) := by omega
        have hx0 : ∀ h : 0 < (⟨(48 :: r).toArray⟩ : ByteArray).size, (⟨(48 :: r).toArray⟩ : ByteArray)[0] = 48 := fun h => ba_at (48 :: r) 0 (by simp) h
        clear hb hn h5
        go_enter Tryd.func47, Tryd.ntmps47
        go_wp2
        all_goals (go_ret2; exact ⟨by simp, rfl⟩)
  · have hn : nat? l = natA 0 l := by unfold nat?; rw [if_neg hb]
    rw [hn]
    have g1 : ¬ ((l.length : Int) < 1) := by omega
    have g2 : ¬ ((20 : Int) < (l.length : Int)) := by omega
    have g3 : 1 < l.length → l.head? ≠ some 48 := by intro h1 h2; exact hb (Or.inr (Or.inr ⟨h1, h2⟩))
    clear hb hn
    have g4 : 1 < (l.length : Int) → ∃ c : UInt8, (∀ h : 0 < (⟨l.toArray⟩ : ByteArray).size, (⟨l.toArray⟩ : ByteArray)[0] = c) ∧ ((c.toNat : Int) == 48) = false := by
      intro h
      cases hq : l with
      | nil => rw [hq] at h; simp at h
      | cons c r =>
        refine ⟨c, fun h => ba_at (c :: r) 0 (by simp) h, ?_⟩
        have h2 := g3 (by omega)
        rw [hq] at h2
        have h3 : c ≠ 48 := by simpa using h2
        have h4 : c.toNat ≠ 48 := fun e => h3 (UInt8.toNat_inj.1 (by simpa using e))
        simp; omega
    clear g3
    have main : ∀ (hh : (l.length : Int) ≤ 1 ∨ ∃ c : UInt8, 1 < (l.length : Int) ∧ (∀ h : 0 < (⟨l.toArray⟩ : ByteArray).size, (⟨l.toArray⟩ : ByteArray)[0] = c) ∧ ((c.toNat : Int) == 48) = false), Calls Tryd.prog 47 #[.string ⟨l.toArray⟩] w fun e w' => e = .returned (.tuple #[.int .u64 (((natA 0 l).getD 0 : Nat) : Int), .bool (natA 0 l).isSome]) ∧ w' = w := by
      intro hh
      rcases hh with hh | ⟨c0, hbig, hc0, hc48⟩
      · go_enter Tryd.func47, Tryd.ntmps47
        go_wp2_with fail
        go_loopw [4, 5] (fun nv iv wr => ∃ (k acc : Nat), k ≤ l.length ∧ iv = .int .i64 k ∧ nv = .int .u64 acc ∧ acc < 18446744073709551616 ∧ Hid (natA 0 l = natA acc (l.drop k)) ∧ wr = w) (fun _ iv _ => l.length - (RowKit.intOf iv).toNat)
        case atStart => exact ⟨0, 0, Nat.zero_le _, rfl, rfl, by decide, hid (by simp), rfl⟩
        case round =>
          obtain ⟨k, acc, hk, rfl, rfl, hacc, HR, rfl⟩ := hrel
          by_cases hlt : k < l.length
          · obtain ⟨c, hc⟩ : ∃ c, l[k] = c := ⟨_, rfl⟩
            have hx : ∀ h : k < (⟨l.toArray⟩ : ByteArray).size, (⟨l.toArray⟩ : ByteArray)[k] = c := fun h => by rw [ba_at l k hlt h, hc]
            have hr := HR.out
            rw [List.drop_eq_getElem_cons hlt, hc, natA] at hr
            have i0 : (0 : Int) ≤ (k : Int) := by omega
            have i1 : (k : Int) < (l.length : Int) := by omega
            have hc256 : c.toNat < 256 := c.toNat_lt
            clear hc HR
            by_cases hd : Dig c
            · rw [if_neg (by simpa using hd)] at hr
              unfold Dig at hd
              obtain ⟨d, hd2⟩ : ∃ d, c.toNat = 48 + d := ⟨c.toNat - 48, by omega⟩
              have hd9 : d ≤ 9 := by omega
              rw [hd2, show 48 + d - 48 = d by omega] at hr
              by_cases ho : (18446744073709551615 - d) / 10 < acc
              · rw [if_pos ho] at hr
                have ho2 : (18446744073709551615 - (d : Int)) / 10 < (acc : Int) := by omega
                have HR := hid hr
                clear hr ho hd
                go_wp2
                go_ret2
                exact ⟨by rw [HR.out]; simp, rfl⟩
              · rw [if_neg ho] at hr
                have ho2 : (acc : Int) ≤ (18446744073709551615 - (d : Int)) / 10 := by omega
                have HR := hid hr
                clear hr ho hd
                go_wp2
                go_roundw
                case rel => exact ⟨k + 1, acc * 10 + d, by omega, by go_num, by first | rfl | (congr 1; omega), by omega, HR, trivial⟩
                case measure => simp [RowKit.intOf]; omega
            · rw [if_pos (by simpa using hd)] at hr
              have HR := hid hr
              clear hr
              by_cases h48 : c.toNat < 48
              · have h48' : (c.toNat : Int) < 48 := by omega
                clear hd
                go_wp2
                go_ret2
                exact ⟨by rw [HR.out]; simp, rfl⟩
              · have h48' : ¬ ((c.toNat : Int) < 48) := by omega
                have h57' : (57 : Int) < (c.toNat : Int) := by unfold Dig at hd; omega
                clear hd
                go_wp2
                go_ret2
                exact ⟨by rw [HR.out]; simp, rfl⟩
          · have hr := HR.out
            rw [List.drop_eq_nil_of_le (by omega), natA] at hr
            have HR := hid hr
            clear hr
            go_wp2
            go_ret2
            exact ⟨by rw [HR.out]; simp, rfl⟩
      · go_enter Tryd.func47, Tryd.ntmps47
        go_wp2_with fail
        go_loopw [4, 5] (fun nv iv wr => ∃ (k acc : Nat), k ≤ l.length ∧ iv = .int .i64 k ∧ nv = .int .u64 acc ∧ acc < 18446744073709551616 ∧ Hid (natA 0 l = natA acc (l.drop k)) ∧ wr = w) (fun _ iv _ => l.length - (RowKit.intOf iv).toNat)
        case atStart => exact ⟨0, 0, Nat.zero_le _, rfl, rfl, by decide, hid (by simp), rfl⟩
        case round =>
          obtain ⟨k, acc, hk, rfl, rfl, hacc, HR, rfl⟩ := hrel
          by_cases hlt : k < l.length
          · obtain ⟨c, hc⟩ : ∃ c, l[k] = c := ⟨_, rfl⟩
            have hx : ∀ h : k < (⟨l.toArray⟩ : ByteArray).size, (⟨l.toArray⟩ : ByteArray)[k] = c := fun h => by rw [ba_at l k hlt h, hc]
            have hr := HR.out
            rw [List.drop_eq_getElem_cons hlt, hc, natA] at hr
            have i0 : (0 : Int) ≤ (k : Int) := by omega
            have i1 : (k : Int) < (l.length : Int) := by omega
            have hc256 : c.toNat < 256 := c.toNat_lt
            clear hc HR
            by_cases hd : Dig c
            · rw [if_neg (by simpa using hd)] at hr
              unfold Dig at hd
              obtain ⟨d, hd2⟩ : ∃ d, c.toNat = 48 + d := ⟨c.toNat - 48, by omega⟩
              have hd9 : d ≤ 9 := by omega
              rw [hd2, show 48 + d - 48 = d by omega] at hr
              by_cases ho : (18446744073709551615 - d) / 10 < acc
              · rw [if_pos ho] at hr
                have ho2 : (18446744073709551615 - (d : Int)) / 10 < (acc : Int) := by omega
                have HR := hid hr
                clear hr ho hd
                go_wp2
                go_ret2
                exact ⟨by rw [HR.out]; simp, rfl⟩
              · rw [if_neg ho] at hr
                have ho2 : (acc : Int) ≤ (18446744073709551615 - (d : Int)) / 10 := by omega
                have HR := hid hr
                clear hr ho hd
                go_wp2
                go_roundw
                case rel => exact ⟨k + 1, acc * 10 + d, by omega, by go_num, by first | rfl | (congr 1; omega), by omega, HR, trivial⟩
                case measure => simp [RowKit.intOf]; omega
            · rw [if_pos (by simpa using hd)] at hr
              have HR := hid hr
              clear hr
              by_cases h48 : c.toNat < 48
              · have h48' : (c.toNat : Int) < 48 := by omega
                clear hd
                go_wp2
                go_ret2
                exact ⟨by rw [HR.out]; simp, rfl⟩
              · have h48' : ¬ ((c.toNat : Int) < 48) := by omega
                have h57' : (57 : Int) < (c.toNat : Int) := by unfold Dig at hd; omega
                clear hd
                go_wp2
                go_ret2
                exact ⟨by rw [HR.out]; simp, rfl⟩
          · have hr := HR.out
            rw [List.drop_eq_nil_of_le (by omega), natA] at hr
            have HR := hid hr
            clear hr
            go_wp2
            go_ret2
            exact ⟨by rw [HR.out]; simp, rfl⟩
    exact main (by
      by_cases h : 1 < (l.length : Int)
      · obtain ⟨c, h1, h2⟩ := g4 h
        exact Or.inr ⟨c, h, h1, h2⟩
      · exact Or.inl (by omega))

set_option maxHeartbeats 2000000 in
set_option maxRecDepth 100000 in
/-- the law's tags: of one list twice. -/
theorem tags_same (l : List (Int × List UInt8)) (q1 q2 : Option Addr) (c1 c2 : Nat) (w : World) (hl : l.length < 9223372036854775808) (h1 : Ts w q1 l) (h2 : Ts w q2 l) :
    Calls Tryd.prog 14 #[.slice q1 l.length c1, .slice q2 l.length c2] w fun e w' => e = .returned (.bool true) ∧ Below w.heap.size w w' := by
  have HT1 := hid h1
  have HT2 := hid h2
  clear h1 h2
  go_enter Tryd.func14, Tryd.ntmps14
  go_wp2_with fail
  go_loopw [5] (fun iv wr => ∃ k : Nat, k ≤ l.length ∧ iv = .int .i64 k ∧ Hid (Below w.heap.size w wr)) (fun iv _ => l.length - (RowKit.intOf iv).toNat)
  case atStart => exact ⟨0, Nat.zero_le _, rfl, Below.refl _ _⟩
  case round =>
    obtain ⟨k, hk, rfl, HB⟩ := hrel
    by_cases hlt : k < l.length
    · obtain ⟨b1, o1, rfl, h10, h11⟩ := (HT1.out.on HB.out) k hlt
      obtain ⟨b2, o2, rfl, h20, h21⟩ := (HT2.out.on HB.out) k hlt
      have i0 : (0 : Int) ≤ (k : Int) := by omega
      have i1 : (k : Int) < (l.length : Int) := by omega
      obtain ⟨z, s, hz⟩ : ∃ z s, l[k] = (z, s) := ⟨_, _, rfl⟩
      rw [hz] at h10 h11 h20 h21
      simp only at h10 h11 h20 h21
      clear hz
      go_wp2
      go_region
      all_goals
        go_wp2
        go_roundw
        case rel => exact ⟨k + 1, by omega, by go_num, hid (by first | exact HB.out | exact HB.out.drew)⟩
        case measure => simp [RowKit.intOf]; omega
    · go_wp2
      go_ret
      exact ⟨rfl, HB.out⟩
end Go.Proofs.YtolabllgnfpfaaaDoor
