/-
  The library's contracts of math/bits at this program.
-/
import Derived.Shelf.Small.Bits
import Derived.Shelf.Strconv.Itoa0
import Derived.Test.YtfgcfiejkjhebaaProg
import Derived.Test.YtfgcfiejkjhebaaGk
namespace Go.Proofs
open Go.Shelf
def Try.lays128_ren : Go.Shelf.Ren := ⟨fun | 128 => 78 | n => n, fun | 51 => 31 | 3 => 3 | 4 => 4 | 46 => 110 | 5 => 5 | 9 => 9 | n => n, fun | n => n⟩
theorem Try.lays128 : Go.Proofs.Lays.n128 Try.prog Try.lays128_ren := {
  mixed := by kernel_rfl
  f128 := Try.func78.trans (congrArg some (by kernel_rfl))
  t3 := Try.underlying3
  a3 := Try.isAgg3
  z3 := Try.sizeOf3
  v3 := Try.zeroValue3
  t4 := Try.underlying4
  a4 := Try.isAgg4
  z4 := Try.sizeOf4
  v4 := Try.zeroValue4
  t5 := Try.underlying5
  a5 := Try.isAgg5
  z5 := Try.sizeOf5
  v5 := Try.zeroValue5
  t9 := Try.underlying9
  a9 := Try.isAgg9
  z9 := Try.sizeOf9
  v9 := Try.zeroValue9
  t46 := Try.underlying110
  a46 := Try.isAgg110
  z46 := Try.sizeOf110
  v46 := Try.zeroValue110
  t51 := Try.underlying31
  a51 := Try.isAgg31
  z51 := Try.sizeOf31
  v51 := Try.zeroValue31 }
theorem Try.bits_Len32 (x : Int) (w : World) (h0 : 0 ≤ x) (h1 : x ≤ 4294967295) :
    Calls Try.prog 78 #[.int .u32 x] w fun e w' => e = .returned (.int .i64 (Lib.bitLen x.toNat)) ∧ w' = w := Any.bits_Len32 Try.lays128 x w h0 h1
def Try.lays125_ren : Go.Shelf.Ren := ⟨fun | 125 => 63 | 128 => 78 | 129 => 79 | n => n, fun | 46 => 110 | 3 => 3 | 51 => 31 | 53 => 30 | 4 => 4 | 5 => 5 | 9 => 9 | n => n, fun | n => n⟩
theorem Try.lays125 : Go.Proofs.Lays.n125 Try.prog Try.lays125_ren := {
  mixed := by kernel_rfl
  f125 := Try.func63.trans (congrArg some (by kernel_rfl))
  f128 := Try.func78.trans (congrArg some (by kernel_rfl))
  f129 := Try.func79.trans (congrArg some (by kernel_rfl))
  t3 := Try.underlying3
  a3 := Try.isAgg3
  z3 := Try.sizeOf3
  v3 := Try.zeroValue3
  t4 := Try.underlying4
  a4 := Try.isAgg4
  z4 := Try.sizeOf4
  v4 := Try.zeroValue4
  t5 := Try.underlying5
  a5 := Try.isAgg5
  z5 := Try.sizeOf5
  v5 := Try.zeroValue5
  t9 := Try.underlying9
  a9 := Try.isAgg9
  z9 := Try.sizeOf9
  v9 := Try.zeroValue9
  t46 := Try.underlying110
  a46 := Try.isAgg110
  z46 := Try.sizeOf110
  v46 := Try.zeroValue110
  t51 := Try.underlying31
  a51 := Try.isAgg31
  z51 := Try.sizeOf31
  v51 := Try.zeroValue31
  t53 := Try.underlying30
  a53 := Try.isAgg30
  z53 := Try.sizeOf30
  v53 := Try.zeroValue30 }
theorem Try.bits_Len (x : Int) (w : World) (h0 : 0 ≤ x) (h1 : x ≤ 18446744073709551615) :
    Calls Try.prog 63 #[.int .u64 x] w fun e w' => e = .returned (.int .i64 (Lib.bitLen x.toNat)) ∧ w' = w := Any.bits_Len Try.lays125 x w h0 h1
def Try.lays129_ren : Go.Shelf.Ren := ⟨fun | 129 => 79 | n => n, fun | 53 => 30 | 3 => 3 | 4 => 4 | 46 => 110 | 5 => 5 | 9 => 9 | n => n, fun | n => n⟩
theorem Try.lays129 : Go.Proofs.Lays.n129 Try.prog Try.lays129_ren := {
  mixed := by kernel_rfl
  f129 := Try.func79.trans (congrArg some (by kernel_rfl))
  t3 := Try.underlying3
  a3 := Try.isAgg3
  z3 := Try.sizeOf3
  v3 := Try.zeroValue3
  t4 := Try.underlying4
  a4 := Try.isAgg4
  z4 := Try.sizeOf4
  v4 := Try.zeroValue4
  t5 := Try.underlying5
  a5 := Try.isAgg5
  z5 := Try.sizeOf5
  v5 := Try.zeroValue5
  t9 := Try.underlying9
  a9 := Try.isAgg9
  z9 := Try.sizeOf9
  v9 := Try.zeroValue9
  t46 := Try.underlying110
  a46 := Try.isAgg110
  z46 := Try.sizeOf110
  v46 := Try.zeroValue110
  t53 := Try.underlying30
  a53 := Try.isAgg30
  z53 := Try.sizeOf30
  v53 := Try.zeroValue30 }
theorem Try.bits_Len64 (x : Int) (w : World) (h0 : 0 ≤ x) (h1 : x ≤ 18446744073709551615) :
    Calls Try.prog 79 #[.int .u64 x] w fun e w' => e = .returned (.int .i64 (Lib.bitLen x.toNat)) ∧ w' = w := Any.bits_Len64 Try.lays129 x w h0 h1
end Go.Proofs
namespace Go.Proofs.Ytfgcfiejkjhebaa.Sr
open Go.RowKit Go.Deep
set_option linter.unusedVariables false
set_option linter.unusedSimpArgs false
set_option maxHeartbeats 8000000
set_option maxRecDepth 100000
theorem next_any (s : Nat) (x : Int) (w : World) (h : w.heap[s]? = some (.cells #[.int .u64 x] 127 (0, 0))) :
    Calls Try.prog 87 #[.pointer (some ⟨s, 0, none⟩)] w fun e w' => ∃ y : Int, e = .returned (.int .u64 y) ∧ Hid (w'.heap[s]? = some (.cells #[.int .u64 y] 127 (0, 0))) ∧ Hid (Kp (fun j => j = s) w w') := by
  have c0 : w.cell? ⟨s, 0, none⟩ = some (.int .u64 x) := row_cell h 0
  have f0 : w.frozen? ⟨s, 0, none⟩ = false := row_frz h 0
  have H := hid h
  clear h
  go_enter Try.func87, Try.ntmps87
  go_upto_region 1 with fail
  go_region
  obtain ⟨x1, hx1⟩ : ∃ y, bits BinOp.xor IntKind.u64 x (IntKind.u64.wrap (x * 8192)) = y := ⟨_, rfl⟩
  rw [hx1]
  obtain ⟨W1, hW1⟩ : ∃ U, (w.setCell ⟨s, 0, none⟩ (.int .u64 x1)).drew = U := ⟨_, rfl⟩
  have H1 := hid (show W1.heap[s]? = some (.cells #[.int .u64 x1] 127 (0, 0)) from by rw [← hW1]; exact heap_setCell_same w s 0 _ _ _ H.out)
  have K1 := hid (show Kp (fun j => j = s) w W1 from by rw [← hW1]; exact (Kp.set w s 0 _).trans (Kp.drew _ _) (fun _ _ e => e))
  rw [hW1]
  clear hW1 hx1 c0 f0
  have c0 : W1.cell? ⟨s, 0, none⟩ = some (.int .u64 x1) := row_cell H1.out 0
  have f0 : W1.frozen? ⟨s, 0, none⟩ = false := row_frz H1.out 0
  go_upto_region 2 with fail
  go_region
  obtain ⟨x2, hx2⟩ : ∃ y, bits BinOp.xor IntKind.u64 x1 (x1 / 128) = y := ⟨_, rfl⟩
  rw [hx2]
  obtain ⟨W2, hW2⟩ : ∃ U, (W1.setCell ⟨s, 0, none⟩ (.int .u64 x2)).drew = U := ⟨_, rfl⟩
  have H2 := hid (show W2.heap[s]? = some (.cells #[.int .u64 x2] 127 (0, 0)) from by rw [← hW2]; exact heap_setCell_same W1 s 0 _ _ _ H1.out)
  have K2 := hid (show Kp (fun j => j = s) W1 W2 from by rw [← hW2]; exact (Kp.set W1 s 0 _).trans (Kp.drew _ _) (fun _ _ e => e))
  rw [hW2]
  clear hW2 hx2 c0 f0
  have c0 : W2.cell? ⟨s, 0, none⟩ = some (.int .u64 x2) := row_cell H2.out 0
  have f0 : W2.frozen? ⟨s, 0, none⟩ = false := row_frz H2.out 0
  go_upto_region 3 with fail
  go_region
  obtain ⟨x3, hx3⟩ : ∃ y, bits BinOp.xor IntKind.u64 x2 (IntKind.u64.wrap (x2 * 131072)) = y := ⟨_, rfl⟩
  rw [hx3]
  obtain ⟨W3, hW3⟩ : ∃ U, (W2.setCell ⟨s, 0, none⟩ (.int .u64 x3)).drew = U := ⟨_, rfl⟩
  have H3 := hid (show W3.heap[s]? = some (.cells #[.int .u64 x3] 127 (0, 0)) from by rw [← hW3]; exact heap_setCell_same W2 s 0 _ _ _ H2.out)
  have K3 := hid (show Kp (fun j => j = s) W2 W3 from by rw [← hW3]; exact (Kp.set W2 s 0 _).trans (Kp.drew _ _) (fun _ _ e => e))
  rw [hW3]
  clear hW3 hx3 c0 f0
  have c0 : W3.cell? ⟨s, 0, none⟩ = some (.int .u64 x3) := row_cell H3.out 0
  have f0 : W3.frozen? ⟨s, 0, none⟩ = false := row_frz H3.out 0
  go_wp2
  go_ret
  exact ⟨x3, rfl, H3, hid ((K1.out.trans K2.out (fun _ _ e => e)).trans K3.out (fun _ _ e => e))⟩
theorem bl_bounds : ∀ (f x : Nat), x < 2 ^ f → x ≠ 0 → 1 ≤ Lib.bitLenAux f x ∧ 2 ^ (Lib.bitLenAux f x - 1) ≤ x ∧ x < 2 ^ Lib.bitLenAux f x := by
  intro f
  induction f with
  | zero => intro x h h0; simp at h; omega
  | succ f ih =>
    intro x h h0
    simp only [Lib.bitLenAux, h0, if_false]
    by_cases hz : x / 2 = 0
    · have hx : x = 1 := by omega
      subst hx
      have : Lib.bitLenAux f (1 / 2) = 0 := by cases f <;> simp [Lib.bitLenAux]
      rw [this]; simp
    · obtain ⟨a, b, c⟩ := ih (x / 2) (by rw [Nat.pow_succ] at h; omega) hz
      generalize Lib.bitLenAux f (x / 2) = m at *
      obtain ⟨m', rfl⟩ : ∃ m', m = m' + 1 := ⟨m - 1, by omega⟩
      have e : 1 + (m' + 1) - 1 = m' + 1 := by omega
      have e2 : 1 + (m' + 1) = m' + 1 + 1 := by omega
      rw [e, e2]
      simp only [Nat.add_sub_cancel] at b
      rw [Nat.pow_succ 2 (m' + 1)]
      rw [Nat.pow_succ] at c ⊢
      omega
theorem npow_any (n : Nat) (h1 : 1 ≤ n) (h2 : n ≤ 1152921504606846976) (w : World) :
    Calls Try.prog 86 #[.int .i64 n] w fun e w' => ∃ m : Nat, e = .returned (.int .u64 m) ∧ Hid (1 ≤ m ∧ m ≤ 2 * n) ∧ w = w' := by
  have hL := hid (Try.bits_Len (n : Int) w (by omega) (by omega))
  have wn : IntKind.u64.wrap (n : Int) = (n : Int) := by rw [IntKind.wrap_u64]; omega
  obtain ⟨k, hk⟩ : ∃ k, Lib.bitLen (n : Int).toNat = k := ⟨_, rfl⟩
  have hb : 1 ≤ k ∧ 2 ^ (k - 1) ≤ n ∧ n < 2 ^ k := by
    have e : (n : Int).toNat = n := by omega
    rw [e] at hk
    have := bl_bounds 64 n (by omega) (by omega)
    change 1 ≤ Lib.bitLen n ∧ 2 ^ (Lib.bitLen n - 1) ≤ n ∧ n < 2 ^ Lib.bitLen n at this
    rw [hk] at this
    exact this
  obtain ⟨m, hm⟩ : ∃ m, 2 ^ k = m := ⟨_, rfl⟩
  have hmm : 1 ≤ m ∧ m ≤ 2 * n := by
    obtain ⟨b1, b2, b3⟩ := hb
    obtain ⟨j, rfl⟩ : ∃ j, k = j + 1 := ⟨k - 1, by omega⟩
    rw [Nat.pow_succ] at hm
    simp only [Nat.add_sub_cancel] at b2
    have := Nat.two_pow_pos j
    omega
  have k60 : k ≤ 61 := by
    rcases Nat.lt_or_ge 61 k with h | h
    · have := Nat.pow_le_pow_right (n := 2) (by omega) h
      omega
    · exact h
  have HMM := hid hmm
  have HKM := hid hm
  rw [hk] at hL
  clear hk hb hm hmm
  go_enter Try.func86, Try.ntmps86
  go_wp2_with (go_at_call 63; with_reducible refine (hL.out).mono ?_; rintro e w9 ⟨rfl, h9⟩; subst w9)
  go_ret
  refine ⟨m, ?_, HMM, rfl⟩
  have e3 : ((2 : Int) ^ k) = (m : Int) := by rw [← HKM.out]; simp
  have e4 : IntKind.u64.wrap (m : Int) = (m : Int) := by rw [IntKind.wrap_u64]; have := HMM.out; omega
  rw [e3, e4]
  rfl
theorem and_le (y z : Int) (h0 : 0 ≤ z) (h1 : z < 18446744073709551616) : 0 ≤ bits BinOp.and IntKind.u64 y z ∧ bits BinOp.and IntKind.u64 y z ≤ z := by
  have e1 : (BitVec.ofInt 64 z).toNat = z.toNat := by rw [BitVec.toNat_ofInt]; omega
  have e2 : (BitVec.ofInt 64 y &&& BitVec.ofInt 64 z).toNat ≤ z.toNat := by rw [BitVec.toNat_and, e1]; exact Nat.and_le_right
  have e3 : bits BinOp.and IntKind.u64 y z = IntKind.u64.wrap ((BitVec.ofInt 64 y &&& BitVec.ofInt 64 z).toNat : Int) := rfl
  rw [e3, IntKind.wrap_u64]
  omega
end Go.Proofs.Ytfgcfiejkjhebaa.Sr
