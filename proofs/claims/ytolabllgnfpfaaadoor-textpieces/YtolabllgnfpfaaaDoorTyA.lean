/-
  text.span's end, text.readBeginning, text.digits.
-/
import Derived.Test.YtolabllgnfpfaaaDoorTxL
import Derived.BigQuiet
import Derived.Deep.QuietTactic
namespace Go.Proofs.YtolabllgnfpfaaaDoor
open Go.RowKit Go.Deep Go.Lib Go.Shelf Go.Sort
set_option linter.unusedVariables false

set_option maxHeartbeats 1000000 in
set_option maxRecDepth 100000 in
/-- span.end. -/
theorem end_any (f t : Nat) (w : World) (ht : t < 4611686018427387904) :
    Calls Tryd.prog 21 #[.agg #[.int .i64 f, .int .i64 t]] w fun e w' => e = .returned (.int .i64 ((t : Int) + 7)) ∧ Below w.heap.size w w' := by
  go_enter Tryd.func21, Tryd.ntmps21
  go_wp2
  go_ret
  exact ⟨rfl, ball _ _⟩

/-- the one beginning of all lines. -/
def beg : List UInt8 := [56, 61, 66, 82, 83, 46, 49, 1, 57, 61]
theorem beg_len : beg.length = 10 := rfl
/-- how far bytes begin as they should, and what is wrong there. -/
def begE (b : List UInt8) : Nat → Nat → Nat × Int
  | _, 0 => (0, 0)
  | i, k + 1 => match b[i]? with
    | none => (i, 20)
    | some c => if some c = beg[i]? then begE b (i + 1) k else (i, 3)
theorem begE_none {b : List UInt8} {i k : Nat} (hk : i < k) (h : b.length ≤ i) : begE b i (k - i) = (i, 20) := by
  rw [show k - i = (k - i - 1) + 1 by omega]
  simp only [begE, List.getElem?_eq_none h]
theorem begE_some {b : List UInt8} {i k : Nat} (hk : i < k) (hb : i < b.length) (hi : i < beg.length) : begE b i (k - i) = if b[i] = beg[i] then begE b (i + 1) (k - (i + 1)) else (i, 3) := by
  rw [show k - i = (k - (i + 1)) + 1 by omega]
  simp only [begE, List.getElem?_eq_getElem hb, List.getElem?_eq_getElem hi, Option.some.injEq]
set_option maxHeartbeats 2000000 in
set_option maxRecDepth 100000 in
/-- text.readBeginning. -/
theorem beginning_any (l : List UInt8) (q : Option Addr) (cap : Nat) (w : World) (hl : l.length < 9223372036854775808) (hS : Sb w q l) :
    Calls Tryd.prog 29 #[.slice q l.length cap] w fun e w' => e = .returned (.tuple #[.int .i64 ((begE l 0 10).1 : Nat), .int .i64 (begE l 0 10).2]) ∧ Below w.heap.size w w' := by
  have HS := hid hS
  clear hS
  go_enter Tryd.func29, Tryd.ntmps29
  go_wp2_with fail
  go_loopw [5] (fun iv wr => ∃ k : Nat, k ≤ 10 ∧ k ≤ l.length ∧ iv = .int .i64 k ∧ Hid (Below w.heap.size w wr) ∧ Hid (begE l 0 10 = begE l k (10 - k))) (fun iv _ => 10 - (RowKit.intOf iv).toNat)
  case atStart => exact ⟨0, by omega, Nat.zero_le _, rfl, Below.refl _ _, hid rfl⟩
  case round =>
    obtain ⟨k, hk, hkl, rfl, HB, HE⟩ := hrel
    by_cases hlt : k < 10
    · have i3 : (k : Int) < 10 := by omega
      by_cases hend : k = l.length
      · have HE2 := hid (HE.out.trans (begE_none hlt (by omega)))
        have f1 : ((k : Int) == (l.length : Int)) = true := by simp; omega
        clear HE hend
        go_wp2
        go_ret2
        exact ⟨by rw [HE2.out]; rfl, HB.out⟩
      · obtain ⟨b, o, rfl, h0⟩ := (HS.out.on HB.out) k (by omega)
        obtain ⟨c, hc⟩ : ∃ c, l[k]'(by omega) = c := ⟨_, rfl⟩
        rw [hc] at h0
        have he := HE.out.trans (begE_some hlt (by omega) (by rw [beg_len]; omega))
        rw [hc] at he
        have f1 : ((k : Int) == (l.length : Int)) = false := by simp; omega
        have i0 : (0 : Int) ≤ (k : Int) := by omega
        have i1 : (k : Int) < (l.length : Int) := by omega
        obtain ⟨d, hd⟩ : ∃ d, beg[k]'(by rw [beg_len]; omega) = d := ⟨_, rfl⟩
        have hx : ∀ h : k < (⟨#[56, 61, 66, 82, 83, 46, 49, 1, 57, 61]⟩ : ByteArray).size, (⟨#[56, 61, 66, 82, 83, 46, 49, 1, 57, 61]⟩ : ByteArray)[k] = d := fun h => (ba_at beg k (by rw [beg_len]; omega) h).trans hd
        rw [hd] at he
        have hsz : (⟨#[56, 61, 66, 82, 83, 46, 49, 1, 57, 61]⟩ : ByteArray).size = 10 := rfl
        by_cases hcd : c = d
        · subst hcd
          rw [if_pos rfl] at he
          have HE2 := hid he
          clear he HE hc hd
          go_wp2
          go_quiet (fail)
          go_wp2
          go_roundw
          case rel => exact ⟨k + 1, by omega, by omega, by go_num, hid (HB.out.trans ⟨rfl, rfl, rfl, Nat.le_refl _, fun _ _ => rfl⟩), HE2⟩
          case measure => simp [RowKit.intOf]; omega
        · rw [if_neg hcd] at he
          have HE2 := hid he
          have hne : ((c.toNat : Int) != (d.toNat : Int)) = true := by
            simp
            intro e
            exact hcd (UInt8.toNat_inj.1 (by omega))
          clear he HE hc hd
          go_wp2
          go_quiet (fail)
          go_wp2
          go_ret2
          exact ⟨by rw [HE2.out]; rfl, HB.out.trans ⟨rfl, rfl, rfl, Nat.le_refl _, fun _ _ => rfl⟩⟩
    · obtain rfl : k = 10 := by omega
      have HE2 := hid (show begE l 0 10 = (0, 0) from HE.out.trans rfl)
      go_wp2
      go_ret2
      exact ⟨by rw [HE2.out]; rfl, HB.out⟩

/-- how many decimal digits bytes begin with, five at most. -/
def digN (b : List UInt8) : Nat → Nat → Nat
  | i, 0 => i
  | i, k + 1 => match b[i]? with
    | none => i
    | some c => if Dig c then digN b (i + 1) k else i
theorem digN_none {b : List UInt8} {i k : Nat} (hk : i < k) (h : b.length ≤ i) : digN b i (k - i) = i := by
  rw [show k - i = (k - i - 1) + 1 by omega]
  simp only [digN, List.getElem?_eq_none h]
theorem digN_some {b : List UInt8} {i k : Nat} (hk : i < k) (hb : i < b.length) : digN b i (k - i) = if Dig b[i] then digN b (i + 1) (k - (i + 1)) else i := by
  rw [show k - i = (k - (i + 1)) + 1 by omega]
  simp only [digN, List.getElem?_eq_getElem hb]
set_option maxHeartbeats 2000000 in
set_option maxRecDepth 100000 in
/-- text.digits. -/
theorem digits_any (l : List UInt8) (q : Option Addr) (cap : Nat) (w : World) (hl : l.length < 9223372036854775808) (hS : Sb w q l) :
    Calls Tryd.prog 44 #[.slice q l.length cap] w fun e w' => e = .returned (.int .i64 (digN l 0 5 : Nat)) ∧ w' = w := by
  have HS := hid hS
  clear hS
  go_enter Tryd.func44, Tryd.ntmps44
  go_wp2_with fail
  go_loopw [4] (fun iv wr => ∃ k : Nat, k ≤ 5 ∧ k ≤ l.length ∧ iv = .int .i64 k ∧ wr = w ∧ Hid (digN l 0 5 = digN l k (5 - k))) (fun iv _ => 5 - (RowKit.intOf iv).toNat)
  case atStart => exact ⟨0, by omega, Nat.zero_le _, rfl, rfl, hid rfl⟩
  case round =>
    obtain ⟨k, hk, hkl, rfl, rfl, HE⟩ := hrel
    by_cases hlt : k < 5
    · have i3 : (k : Int) < 5 := by omega
      by_cases hend : k = l.length
      · have HE2 := hid (HE.out.trans (digN_none hlt (by omega)))
        have f1 : ((k : Int) == (l.length : Int)) = true := by simp; omega
        clear HE hend
        go_wp2
        go_ret
        exact ⟨by rw [HE2.out]; rfl, rfl⟩
      · obtain ⟨b, o, rfl, h0⟩ := HS.out k (by omega)
        obtain ⟨c, hc⟩ : ∃ c, l[k]'(by omega) = c := ⟨_, rfl⟩
        rw [hc] at h0
        have he := HE.out.trans (digN_some hlt (by omega))
        rw [hc] at he
        have f1 : ((k : Int) == (l.length : Int)) = false := by simp; omega
        have i0 : (0 : Int) ≤ (k : Int) := by omega
        have i1 : (k : Int) < (l.length : Int) := by omega
        have ID := hid (isdigit_any c)
        by_cases hd : Dig c
        · rw [if_pos hd] at he
          rw [decide_eq_true hd] at ID
          have HE2 := hid he
          clear he HE hc hd
          go_wp2_with (go_at_call 39; refine (ID.out _).mono ?_; rintro e w1 ⟨rfl, rfl⟩)
          go_roundw
          case rel => exact ⟨k + 1, by omega, by omega, by go_num, trivial, HE2⟩
          case measure => simp [RowKit.intOf]; omega
        · rw [if_neg hd] at he
          rw [decide_eq_false hd] at ID
          have HE2 := hid he
          clear he HE hc hd
          go_wp2_with (go_at_call 39; refine (ID.out _).mono ?_; rintro e w1 ⟨rfl, rfl⟩)
          go_ret
          exact ⟨by rw [HE2.out]; rfl, rfl⟩
    · obtain rfl : k = 5 := by omega
      have HE2 := hid (show digN l 0 5 = 5 from HE.out.trans rfl)
      go_wp2
      go_ret
      exact ⟨by rw [HE2.out]; rfl, rfl⟩
end Go.Proofs.YtolabllgnfpfaaaDoor
