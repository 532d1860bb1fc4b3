/-
  The ring in memory: next, steps.
-/
import Derived.Test.YthidnipmkffilaaIxA
namespace Go.Proofs.Ythidnipmkffilaa
open Go.RowKit Go.Deep
set_option linter.unusedVariables false
set_option linter.unusedSimpArgs false
theorem wrap_small {x : Int} (h0 : 0 ≤ x) (h1 : x < 9223372036854775808) : IntKind.i64.wrap x = x := by
  simp [IntKind.wrap, IntKind.bits, IntKind.signed]; omega
theorem bits_mask {k : Nat} (hk : 2 ^ k ≤ 131072) (x : Int) : bits BinOp.and IntKind.i64 x (((2 ^ k : Nat) : Int) - 1) = x % ((2 ^ k : Nat) : Int) := by
  have hk17 : k ≤ 17 := by
    rcases Nat.lt_or_ge 17 k with h | h
    · have := Nat.pow_le_pow_right (n := 2) (by omega) h; omega
    · exact h
  have hpos : 0 < 2 ^ k := Nat.two_pow_pos k
  have e1 : (BitVec.ofInt 64 (((2 ^ k : Nat) : Int) - 1)).toNat = 2 ^ k - 1 := by
    rw [BitVec.toNat_ofInt]; omega
  have hd : ((2 ^ k : Nat) : Int) ∣ 18446744073709551616 := by
    have : (18446744073709551616 : Nat) = 2 ^ k * 2 ^ (64 - k) := by rw [← Nat.pow_add]; have : k + (64 - k) = 64 := by omega
                                                                     rw [this]
    exact ⟨((2 ^ (64 - k) : Nat) : Int), by rw [← Int.natCast_mul, ← this]; rfl⟩
  show IntKind.i64.wrap ((BitVec.ofInt 64 x &&& BitVec.ofInt 64 (((2 ^ k : Nat) : Int) - 1)).toNat : Int) = _
  rw [BitVec.toNat_and, e1, Nat.and_two_pow_sub_one_eq_mod, BitVec.toNat_ofInt]
  have e2 : (((x % ((2 ^ 64 : Nat) : Int)).toNat % 2 ^ k : Nat) : Int) = x % ((2 ^ k : Nat) : Int) := by
    rw [Int.natCast_emod, Int.toNat_of_nonneg (Int.emod_nonneg _ (by decide))]
    exact Int.emod_emod_of_dvd x (by simpa using hd)
  rw [e2]
  have h0 : 0 ≤ x % ((2 ^ k : Nat) : Int) := Int.emod_nonneg _ (by omega)
  have h1 : x % ((2 ^ k : Nat) : Int) < ((2 ^ k : Nat) : Int) := Int.emod_lt_of_pos _ (by omega)
  exact wrap_small h0 (by omega)
theorem nx_mod {n a : Nat} (ha : a < n) : ((a : Int) + 1) % (n : Int) = (Ix.nx n a : Int) := by
  rcases Ix.nx_eq n a with ⟨h1, h2⟩ | ⟨h1, h2⟩
  · rw [h2]; have : (a : Int) + 1 = n := by omega
    rw [this]; simp
  · rw [h2, Int.emod_eq_of_lt (by omega) (by omega)]; rfl
theorem ds_mod {n a b : Nat} (ha : a < n) (hb : b < n) : ((b : Int) - (a : Int)) % (n : Int) = (Ix.ds n a b : Int) := by
  rcases Ix.ds_eq n a b with ⟨h1, h2⟩ | ⟨h1, h2⟩
  · rw [h2, Int.emod_eq_of_lt (by omega) (by omega)]; omega
  · rw [h2, ← Int.add_emod_right, Int.emod_eq_of_lt (by omega) (by omega)]; omega
set_option maxHeartbeats 400000 in
theorem nextC {w : World} {X P n room : Nat} {c : Int} {T : Ix.Tab} (h : Lc w X P n room c T) (hp : ∃ k, n = 2 ^ k) (hm : n ≤ 131072) {a : Nat} (ha : a < n) :
    Calls Try.prog 44 #[.pointer (some ⟨X, 0, none⟩), .int .i64 a] w fun e w' => e = .returned (.int .i64 (Ix.nx n a)) ∧ w' = w := by
  have hc := h.cells.2.2
  obtain ⟨k, hk⟩ := hp
  have e : bits BinOp.and IntKind.i64 ((a : Int) + 1) ((n : Int) - 1) = (Ix.nx n a : Int) := by
    rw [← nx_mod ha]; subst hk; exact bits_mask hm _
  clear h hk
  go_enter Try.func44, Try.ntmps44
  go_wp2
  go_ret
  exact ⟨rfl, rfl⟩
set_option maxHeartbeats 400000 in
theorem stepsC {w : World} {X P n room : Nat} {c : Int} {T : Ix.Tab} (h : Lc w X P n room c T) (hp : ∃ k, n = 2 ^ k) (hm : n ≤ 131072) {a b : Nat} (ha : a < n) (hb : b < n) :
    Calls Try.prog 45 #[.pointer (some ⟨X, 0, none⟩), .int .i64 a, .int .i64 b] w fun e w' => e = .returned (.int .i64 (Ix.ds n a b)) ∧ w' = w := by
  have hc := h.cells.2.2
  obtain ⟨k, hk⟩ := hp
  have e : bits BinOp.and IntKind.i64 ((b : Int) - (a : Int)) ((n : Int) - 1) = (Ix.ds n a b : Int) := by
    rw [← ds_mod ha hb]; subst hk; exact bits_mask hm _
  clear h hk
  go_enter Try.func45, Try.ntmps45
  go_wp2
  go_ret
  exact ⟨rfl, rfl⟩
set_option maxHeartbeats 400000 in
theorem HomeC {w : World} {X P n room : Nat} {c : Int} {T : Ix.Tab} (h : Lc w X P n room c T) (hmost : n ≤ 131072) (k : Int) :
    Calls Try.prog 13 #[.pointer (some ⟨X, 0, none⟩), .int .u64 k] w fun e w' => e = .returned (.int .i64 (hm n k)) ∧ w' = w := by
  have hc := h.cells.2.2
  have hC := home_any hmost k w
  clear h
  go_enter Try.func13, Try.ntmps13
  go_wp2_with (first | (go_at_call 25; with_reducible refine hC.mono ?_; rintro e w9 ⟨rfl, rfl⟩))
  go_ret
  exact ⟨rfl, rfl⟩
theorem next_any {w : World} {X P n room : Nat} {T : Ix.Tab} (h : Lx w X P n room T) {a : Nat} (ha : a < n) :
    Calls Try.prog 44 #[.pointer (some ⟨X, 0, none⟩), .int .i64 a] w fun e w' => e = .returned (.int .i64 (Ix.nx n a)) ∧ w' = w := nextC h.lc h.pow h.most ha
theorem Home_any {w : World} {X P n room : Nat} {T : Ix.Tab} (h : Lx w X P n room T) (k : Int) :
    Calls Try.prog 13 #[.pointer (some ⟨X, 0, none⟩), .int .u64 k] w fun e w' => e = .returned (.int .i64 (hm n k)) ∧ w' = w := HomeC h.lc h.most k
end Go.Proofs.Ythidnipmkffilaa
