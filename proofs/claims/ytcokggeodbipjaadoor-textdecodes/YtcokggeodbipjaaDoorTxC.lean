/-
  TextDecimals' walk.
-/
import Derived.Test.YtcokggeodbipjaaDoorTxB
namespace Go.Proofs.YtcokggeodbipjaaDoor
open Go.RowKit Go.Deep Go.Lib Go.Shelf Go.Sort
set_option linter.unusedVariables false

theorem numOf_one (t : Int) (v : List UInt8) : numOf [(t, v)] t = numEnd (num v) := by
  have : val? [(t, v)] t = some v := by unfold val?; simp
  unfold numOf; simp only [this]
theorem ts_one {w : World} {b : Nat} {t : Int} {v : List UInt8} (h0 : w.cell? ⟨b, 0, none⟩ = some (.int .i64 t)) (h1 : w.cell? ⟨b, 1, none⟩ = some (.string ⟨v.toArray⟩)) : Ts w (some ⟨b, 0, none⟩) [(t, v)] := by
  intro i hi
  obtain rfl : i = 0 := by simpa using hi
  exact ⟨b, 0, rfl, by simpa using h0, by simpa using h1⟩
theorem one_call (t : Int) (v : List UInt8) (hv : v.length ≤ 281474976710656) (cap b : Nat) (w : World) (h0 : w.cell? ⟨b, 0, none⟩ = some (.int .i64 t)) (h1 : w.cell? ⟨b, 1, none⟩ = some (.string ⟨v.toArray⟩)) (hL : LayE w) :
    Calls Tryd.prog 10 #[.slice (some ⟨b, 0, none⟩) 1 cap, .int .i64 t] w fun e w' => e = .returned (.tuple #[.int .u64 ((numOf [(t, v)] t).1 : Int), .int .i64 (numOf [(t, v)] t).2]) ∧ Below w.heap.size w w' :=
  tnumber_any [(t, v)] (some ⟨b, 0, none⟩) cap t w (by simp) (fun x hx => by obtain rfl := List.mem_singleton.1 hx; exact hv) (ts_one h0 h1) hL

set_option maxHeartbeats 4000000 in
set_option maxRecDepth 100000 in
theorem decimals_walk (n : Nat) (other : List UInt8) (w : World) (hn : n < 18446744073709551616) (ho : other.length ≤ 281474976710656) (hL : LayE w) :
    Calls Tryd.prog 3 #[.int .u64 n, .string ⟨other.toArray⟩] w fun e w' => e = .returned (.bool true) ∧ Below w.heap.size w w' := by
  have HL := hid hL
  clear hL
  have HD := hid (decimal_any n hn w HL.out.lay)
  obtain ⟨S, hS⟩ : ∃ S, decDigits n = S := ⟨_, rfl⟩
  have hnum : num S = some n := by rw [← hS]; exact num_dec n hn
  have hlen := dec_len n hn
  rw [hS] at hlen
  have hhd := dec_head n
  rw [hS] at hhd
  have HE := hid (fun k (hk : k < 18446744073709551616) => num_iff other k hk)
  rw [hS] at HD
  have C1 := hid (fun (w1 : World) (b cap : Nat) h0 h1 hL => one_call 7 S (by omega) cap b w1 h0 h1 hL)
  rw [numOf_one, hnum, numEnd] at C1
  have C2 := hid (fun (w1 : World) (b cap : Nat) h0 h1 hL => one_call 7 other ho cap b w1 h0 h1 hL)
  rw [numOf_one] at C2
  have HS := hid (show ∀ k, k < 18446744073709551616 → (decDigits k = S ↔ k = n) from fun k hk => ⟨fun e => by
    have h1 := num_dec k hk
    rw [e, hnum] at h1
    simpa using h1.symm, fun e => by rw [e, hS]⟩)
  have hc1 : ((S.length : Int) == 0) = false := by simp; intro h; subst h; simp at hlen
  have hc2 : ¬ (20 < (S.length : Int)) := by omega
  have hc3 : 1 < (S.length : Int) → ∃ c : UInt8, c ≠ 48 ∧ S[0]? = some c := by
    intro h
    cases hq : S with
    | nil => rw [hq] at h; simp at h
    | cons c r =>
      refine ⟨c, ?_, rfl⟩
      intro e
      have h0 := hhd (by rw [hq, e]; rfl)
      rw [h0] at hS
      rw [← hS, decDigits_one (by omega)] at h
      simp at h
  have HNS := hid hnum
  clear hS hhd hnum
  by_cases hbig : 1 < (S.length : Int)
  · obtain ⟨c, hc48, hc0⟩ := hc3 hbig
    have hix : ∀ h : 0 < (⟨S.toArray⟩ : ByteArray).size, (⟨S.toArray⟩ : ByteArray)[0].toNat ≠ 48 := by
      intro h e
      apply hc48
      apply UInt8.toNat_inj.1
      rw [← show (⟨S.toArray⟩ : ByteArray)[0] = c by
        have := List.getElem?_eq_some_iff.1 hc0
        obtain ⟨h1, h2⟩ := this
        simpa [ByteArray.getElem_eq_getElem_data] using h2]
      exact e
    clear hc3
    go_enter Tryd.func3, Tryd.ntmps3
    go_wp2_with (first | (go_at_call 9; refine HD.out.mono ?_; rintro e w1 ⟨rfl, hb⟩; have HB1 := hid hb; clear hb) | (go_at_call 10; refine (C1.out _ _ _ (by go_simp) (by go_simp) (HL.out.on HB1.out |>.alloc _)).mono ?_; rintro e w2 ⟨rfl, hb⟩; have HB2 := hid (HB1.out.trans (Below.trans ((Below.refl _ _).alloc (Nat.le_refl _) _ |>.mono HB1.out.size) (hb.mono (by have := HB1.out.size; simp; omega)))); clear hb; refine Hid.out ?_))
    refine Lib.hid ?_
    have HL2 := hid (HL.out.on HB2.out)
    cases hno : num other with
    | none =>
      rw [hno, numEnd] at C2
      have hne : (other == S) = false := by
        simp
        intro e
        rw [e, HNS.out] at hno
        cases hno
      clear hno
      go_wp2_with (first | (go_at_call 10; refine (C2.out _ _ _ (by go_simp) (by go_simp) (HL2.out.alloc _)).mono ?_; rintro e w3 ⟨rfl, hb⟩; have HB3 := hid (HB2.out.trans (Below.trans ((Below.refl _ _).alloc (Nat.le_refl _) _ |>.mono HB2.out.size) (hb.mono (by have := HB2.out.size; simp; omega)))); clear hb))
      all_goals first
        | (exfalso; rename_i hkill; simp at hkill; first | omega | (rcases hkill with hkill | hkill; omega; exact hix _ (by omega)) | (exact hix _ (by omega)); done)
        | (go_ret; refine ⟨?_, HB3.out⟩; first | rfl | simp)
    | some k =>
      rw [hno, numEnd] at C2
      obtain ⟨hk1, hk⟩ := num_some other k hno
      have HD3 := hid (fun w3 (hL3 : LayE w3) => decimal_any k hk w3 hL3.lay)
      rw [hk1] at HD3
      have heq : ((k : Int) == (n : Int)) = (other == S) := by
        have h1 := HS.out k hk
        rw [hk1] at h1
        by_cases e : other = S
        · rw [h1.1 e, e]; simp
        · have : k ≠ n := fun h => e (h1.2 h)
          have e2 : (other == S) = false := by simpa using e
          rw [e2]; simp; omega
      clear hno hk1
      go_wp2_with (first | (go_at_call 10; refine (C2.out _ _ _ (by go_simp) (by go_simp) (HL2.out.alloc _)).mono ?_; rintro e w3 ⟨rfl, hb⟩; have HB3 := hid (HB2.out.trans (Below.trans ((Below.refl _ _).alloc (Nat.le_refl _) _ |>.mono HB2.out.size) (hb.mono (by have := HB2.out.size; simp; omega)))); clear hb) | (go_at_call 9; refine (HD3.out _ (HL.out.on HB3.out)).mono ?_; rintro e w4 ⟨rfl, hb⟩; have HB4 := hid (HB3.out.trans (hb.mono HB3.out.size)); clear hb))
      all_goals first
        | (exfalso; rename_i hkill; simp at hkill; first | omega | (rcases hkill with hkill | hkill; omega; exact hix _ (by omega)) | (exact hix _ (by omega)); done)
        | (go_ret; refine ⟨?_, HB4.out⟩; first | rfl | (congr 2; simp; done))
  · clear hc3
    go_enter Tryd.func3, Tryd.ntmps3
    go_wp2_with (first | (go_at_call 9; refine HD.out.mono ?_; rintro e w1 ⟨rfl, hb⟩; have HB1 := hid hb; clear hb) | (go_at_call 10; refine (C1.out _ _ _ (by go_simp) (by go_simp) (HL.out.on HB1.out |>.alloc _)).mono ?_; rintro e w2 ⟨rfl, hb⟩; have HB2 := hid (HB1.out.trans (Below.trans ((Below.refl _ _).alloc (Nat.le_refl _) _ |>.mono HB1.out.size) (hb.mono (by have := HB1.out.size; simp; omega)))); clear hb; refine Hid.out ?_))
    refine Lib.hid ?_
    have HL2 := hid (HL.out.on HB2.out)
    cases hno : num other with
    | none =>
      rw [hno, numEnd] at C2
      have hne : (other == S) = false := by
        simp
        intro e
        rw [e, HNS.out] at hno
        cases hno
      clear hno
      go_wp2_with (first | (go_at_call 10; refine (C2.out _ _ _ (by go_simp) (by go_simp) (HL2.out.alloc _)).mono ?_; rintro e w3 ⟨rfl, hb⟩; have HB3 := hid (HB2.out.trans (Below.trans ((Below.refl _ _).alloc (Nat.le_refl _) _ |>.mono HB2.out.size) (hb.mono (by have := HB2.out.size; simp; omega)))); clear hb))
      all_goals first
        | (exfalso; rename_i hkill; simp at hkill; omega; done)
        | (go_ret; refine ⟨?_, HB3.out⟩; first | rfl | simp)
    | some k =>
      rw [hno, numEnd] at C2
      obtain ⟨hk1, hk⟩ := num_some other k hno
      have HD3 := hid (fun w3 (hL3 : LayE w3) => decimal_any k hk w3 hL3.lay)
      rw [hk1] at HD3
      have heq : ((k : Int) == (n : Int)) = (other == S) := by
        have h1 := HS.out k hk
        rw [hk1] at h1
        by_cases e : other = S
        · rw [h1.1 e, e]; simp
        · have : k ≠ n := fun h => e (h1.2 h)
          have e2 : (other == S) = false := by simpa using e
          rw [e2]; simp; omega
      clear hno hk1
      go_wp2_with (first | (go_at_call 10; refine (C2.out _ _ _ (by go_simp) (by go_simp) (HL2.out.alloc _)).mono ?_; rintro e w3 ⟨rfl, hb⟩; have HB3 := hid (HB2.out.trans (Below.trans ((Below.refl _ _).alloc (Nat.le_refl _) _ |>.mono HB2.out.size) (hb.mono (by have := HB2.out.size; simp; omega)))); clear hb) | (go_at_call 9; refine (HD3.out _ (HL.out.on HB3.out)).mono ?_; rintro e w4 ⟨rfl, hb⟩; have HB4 := hid (HB3.out.trans (hb.mono HB3.out.size)); clear hb))
      all_goals first
        | (exfalso; rename_i hkill; simp at hkill; omega; done)
        | (go_ret; refine ⟨?_, HB4.out⟩; first | rfl | (congr 2; simp; done))
end Go.Proofs.YtcokggeodbipjaaDoor
