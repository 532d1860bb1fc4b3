/-
  breakPatterns: what is thrown.
-/
import Derived.Test.YtjpkodllemoniaaDoorSrH
import Derived.Test.YtjpkodllemoniaaDoorShelf
namespace Go.Proofs.YtjpkodllemoniaaDoor.Sr
open Go.RowKit Go.Deep
set_option linter.unusedVariables false
set_option linter.unusedSimpArgs false
set_option maxHeartbeats 8000000
set_option maxRecDepth 100000
theorem next_any (s : Nat) (x : Int) (w : World) (h : w.heap[s]? = some (.cells #[.int .u64 x] 100 (0, 0))) :
    Calls Tryd.prog 70 #[.pointer (some ⟨s, 0, none⟩)] w fun e w' => ∃ y : Int, e = .returned (.int .u64 y) ∧ Hid (w'.heap[s]? = some (.cells #[.int .u64 y] 100 (0, 0))) ∧ Hid (Kp (fun j => j = s) w w') := by
  have c0 : w.cell? ⟨s, 0, none⟩ = some (.int .u64 x) := row_cell h 0
  have f0 : w.frozen? ⟨s, 0, none⟩ = false := row_frz h 0
  have H := hid h
  clear h
  go_enter Tryd.func70, Tryd.ntmps70
  go_upto_region 1 with fail
  go_region
  obtain ⟨x1, hx1⟩ : ∃ y, bits BinOp.xor IntKind.u64 x (IntKind.u64.wrap (x * 8192)) = y := ⟨_, rfl⟩
  rw [hx1]
  obtain ⟨W1, hW1⟩ : ∃ U, (w.setCell ⟨s, 0, none⟩ (.int .u64 x1)).drew = U := ⟨_, rfl⟩
  have H1 := hid (show W1.heap[s]? = some (.cells #[.int .u64 x1] 100 (0, 0)) from by rw [← hW1]; exact heap_setCell_same w s 0 _ _ _ H.out)
  have K1 := hid (show Kp (fun j => j = s) w W1 from by rw [← hW1]; exact (Kp.set w s 0 _).trans (Kp.drew _ _) (fun _ _ e => e))
  rw [hW1]
  clear hW1 hx1 c0 f0
  have c0 : W1.cell? ⟨s, 0, none⟩ = some (.int .u64 x1) := row_cell H1.out 0
  have f0 : W1.frozen? ⟨s, 0, none⟩ = false := row_frz H1.out 0
  go_upto_region 2 with fail
  go_region
  obtain ⟨x2, hx2⟩ : ∃ y, bits BinOp.xor IntKind.u64 x1 (x1 / 128) = y := ⟨_, rfl⟩
  rw [hx2]
  obtain ⟨W2, hW2⟩ : ∃ U, (W1.setCell ⟨s, 0, none⟩ (.int .u64 x2)).drew = U := ⟨_, rfl⟩
  have H2 := hid (show W2.heap[s]? = some (.cells #[.int .u64 x2] 100 (0, 0)) from by rw [← hW2]; exact heap_setCell_same W1 s 0 _ _ _ H1.out)
  have K2 := hid (show Kp (fun j => j = s) W1 W2 from by rw [← hW2]; exact (Kp.set W1 s 0 _).trans (Kp.drew _ _) (fun _ _ e => e))
  rw [hW2]
  clear hW2 hx2 c0 f0
  have c0 : W2.cell? ⟨s, 0, none⟩ = some (.int .u64 x2) := row_cell H2.out 0
  have f0 : W2.frozen? ⟨s, 0, none⟩ = false := row_frz H2.out 0
  go_upto_region 3 with fail
  go_region
  obtain ⟨x3, hx3⟩ : ∃ y, bits BinOp.xor IntKind.u64 x2 (IntKind.u64.wrap (x2 * 131072)) = y := ⟨_, rfl⟩
  rw [hx3]
  obtain ⟨W3, hW3⟩ : ∃ U, (W2.setCell ⟨s, 0, none⟩ (.int .u64 x3)).drew = U := ⟨_, rfl⟩
  have H3 := hid (show W3.heap[s]? = some (.cells #[.int .u64 x3] 100 (0, 0)) from by rw [← hW3]; exact heap_setCell_same W2 s 0 _ _ _ H2.out)
  have K3 := hid (show Kp (fun j => j = s) W2 W3 from by rw [← hW3]; exact (Kp.set W2 s 0 _).trans (Kp.drew _ _) (fun _ _ e => e))
  rw [hW3]
  clear hW3 hx3 c0 f0
  have c0 : W3.cell? ⟨s, 0, none⟩ = some (.int .u64 x3) := row_cell H3.out 0
  have f0 : W3.frozen? ⟨s, 0, none⟩ = false := row_frz H3.out 0
  go_wp2
  go_ret
  exact ⟨x3, rfl, H3, hid ((K1.out.trans K2.out (fun _ _ e => e)).trans K3.out (fun _ _ e => e))⟩
theorem bl_bounds : ∀ (f x : Nat), x < 2 ^ f → x ≠ 0 → 1 ≤ Lib.bitLenAux f x ∧ 2 ^ (Lib.bitLenAux f x - 1) ≤ x ∧ x < 2 ^ Lib.bitLenAux f x := by
  intro f
  induction f with
  | zero => intro x h h0; simp at h; omega
  | succ f ih =>
    intro x h h0
    simp only [Lib.bitLenAux, h0, if_false]
    by_cases hz : x / 2 = 0
    · have hx : x = 1 := by omega
      subst hx
      have : Lib.bitLenAux f (1 / 2) = 0 := by cases f <;> simp [Lib.bitLenAux]
      rw [this]; simp
    · obtain ⟨a, b, c⟩ := ih (x / 2) (by rw [Nat.pow_succ] at h; omega) hz
      generalize Lib.bitLenAux f (x / 2) = m at *
      obtain ⟨m', rfl⟩ : ∃ m', m = m' + 1 := ⟨m - 1, by omega⟩
      have e : 1 + (m' + 1) - 1 = m' + 1 := by omega
      have e2 : 1 + (m' + 1) = m' + 1 + 1 := by omega
      rw [e, e2]
      simp only [Nat.add_sub_cancel] at b
      rw [Nat.pow_succ 2 (m' + 1)]
      rw [Nat.pow_succ] at c ⊢
      omega
theorem npow_any (n : Nat) (h1 : 1 ≤ n) (h2 : n ≤ 1152921504606846976) (w : World) :
    Calls Tryd.prog 69 #[.int .i64 n] w fun e w' => ∃ m : Nat, e = .returned (.int .u64 m) ∧ Hid (1 ≤ m ∧ m ≤ 2 * n) ∧ w = w' := by
  have hL := hid (Tryd.bits_Len (n : Int) w (by omega) (by omega))
  have wn : IntKind.u64.wrap (n : Int) = (n : Int) := by rw [IntKind.wrap_u64]; omega
  obtain ⟨k, hk⟩ : ∃ k, Lib.bitLen (n : Int).toNat = k := ⟨_, rfl⟩
  have hb : 1 ≤ k ∧ 2 ^ (k - 1) ≤ n ∧ n < 2 ^ k := by
    have e : (n : Int).toNat = n := by omega
    rw [e] at hk
    have := bl_bounds 64 n (by omega) (by omega)
    change 1 ≤ Lib.bitLen n ∧ 2 ^ (Lib.bitLen n - 1) ≤ n ∧ n < 2 ^ Lib.bitLen n at this
    rw [hk] at this
    exact this
  obtain ⟨m, hm⟩ : ∃ m, 2 ^ k = m := ⟨_, rfl⟩
  have hmm : 1 ≤ m ∧ m ≤ 2 * n := by
    obtain ⟨b1, b2, b3⟩ := hb
    obtain ⟨j, rfl⟩ : ∃ j, k = j + 1 := ⟨k - 1, by omega⟩
    rw [Nat.pow_succ] at hm
    simp only [Nat.add_sub_cancel] at b2
    have := Nat.two_pow_pos j
    omega
  have k60 : k ≤ 61 := by
    rcases Nat.lt_or_ge 61 k with h | h
    · have := Nat.pow_le_pow_right (n := 2) (by omega) h
      omega
    · exact h
  have HMM := hid hmm
  have HKM := hid hm
  rw [hk] at hL
  clear hk hb hm hmm
  go_enter Tryd.func69, Tryd.ntmps69
  go_wp2_with (go_at_call 56; with_reducible refine (hL.out).mono ?_; rintro e w9 ⟨rfl, h9⟩; subst w9)
  go_ret
  refine ⟨m, ?_, HMM, rfl⟩
  have e3 : ((2 : Int) ^ k) = (m : Int) := by rw [← HKM.out]; simp
  have e4 : IntKind.u64.wrap (m : Int) = (m : Int) := by rw [IntKind.wrap_u64]; have := HMM.out; omega
  rw [e3, e4]
  rfl
theorem and_le (y z : Int) (h0 : 0 ≤ z) (h1 : z < 18446744073709551616) : 0 ≤ bits BinOp.and IntKind.u64 y z ∧ bits BinOp.and IntKind.u64 y z ≤ z := by
  have e1 : (BitVec.ofInt 64 z).toNat = z.toNat := by rw [BitVec.toNat_ofInt]; omega
  have e2 : (BitVec.ofInt 64 y &&& BitVec.ofInt 64 z).toNat ≤ z.toNat := by rw [BitVec.toNat_and, e1]; exact Nat.and_le_right
  have e3 : bits BinOp.and IntKind.u64 y z = IntKind.u64.wrap ((BitVec.ofInt 64 y &&& BitVec.ofInt 64 z).toNat : Int) := rfl
  rw [e3, IntKind.wrap_u64]
  omega
end Go.Proofs.YtjpkodllemoniaaDoor.Sr
