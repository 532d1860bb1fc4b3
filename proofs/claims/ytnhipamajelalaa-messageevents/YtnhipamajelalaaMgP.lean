/-
  Frames, plain: both ways are one.
-/
import Derived.Test.YtnhipamajelalaaMgH
import Derived.Laws.BitsAllLaws
namespace Go.Proofs.Ytnhipamajelalaa
open Go.RowKit Go.Maps Go.Deep Go.Lib
set_option linter.unusedVariables false
set_option linter.unusedSimpArgs false

theorem wrap_u (x : Int) : IntKind.u64.wrap x = x % 18446744073709551616 := rfl
theorem orW_zero {a : Int} (h : Wd a) : orW 0 a = a := by
  obtain ⟨n, rfl⟩ : ∃ n : Nat, a = (n : Int) := ⟨a.toNat, by have := h.1; omega⟩
  have h2 := h.2
  unfold orW
  have e := u64_or_nat 0 n (by omega) (by omega)
  simpa using e
theorem orW_add {a b : Int} (s : Nat) (ha0 : 0 ≤ a) (ha : a < 2 ^ s) (hb0 : 0 ≤ b) (hs : b * 2 ^ s + a < 18446744073709551616) : orW a (b * 2 ^ s) = a + b * 2 ^ s := by
  obtain ⟨n, rfl⟩ : ∃ n : Nat, a = (n : Int) := ⟨a.toNat, by omega⟩
  obtain ⟨m, rfl⟩ : ∃ m : Nat, b = (m : Int) := ⟨b.toNat, by omega⟩
  have e0 : ((m : Int) * 2 ^ s) = ((m * 2 ^ s : Nat) : Int) := by push_cast; rfl
  rw [e0] at hs ⊢
  have ha' : n < 2 ^ s := by exact_mod_cast ha
  have e1 : n ||| m * 2 ^ s = m * 2 ^ s + n := by
    rw [Nat.or_comm, Nat.mul_comm m, ← Nat.two_pow_add_eq_or_of_lt ha' m]
  obtain ⟨M, hM⟩ : ∃ M, m * 2 ^ s = M := ⟨_, rfl⟩
  rw [hM] at hs e1 ⊢
  unfold orW
  rw [u64_or_nat n M (by omega) (by omega), e1]
  omega
theorem shW_wd (a b : Int) : Wd (shW a b) := by
  unfold shW
  rw [wrap_u]
  unfold Wd
  omega
theorem u64_id {a : Int} (h : Wd a) : u64 a = a := by
  obtain ⟨h1, h2⟩ := h
  unfold u64
  omega
theorem or_one (a b : Int) : orW 0 (shW a b) = u64 (0 + shW a b) := by
  rw [orW_zero (shW_wd a b), Int.zero_add, u64_id (shW_wd a b)]
theorem shW_small {a : Int} (s : Nat) (h0 : 0 ≤ a) (h : a * 2 ^ s < 18446744073709551616) : shW a s = a * 2 ^ s := by
  unfold shW
  rw [wrap_u]
  have e : ((s : Int)).toNat = s := by omega
  rw [e]
  have h2 : 0 ≤ a * 2 ^ s := Int.mul_nonneg h0 (by exact_mod_cast Nat.zero_le _)
  exact Int.emod_eq_of_lt h2 h
theorem or_three {m s y : Int} (m0 : 0 ≤ m) (m1 : m ≤ 4294967295) (s0 : 0 ≤ s) (s1 : s ≤ 255) (y0 : 0 ≤ y) (y1 : y ≤ 255) :
    orW (orW (orW 0 (shW m 0)) (shW s 32)) (shW y 40) = u64 (u64 (u64 (0 + shW m 0) + shW s 32) + shW y 40) := by
  have e0 : shW m 0 = m := by
    have := shW_small (a := m) 0 m0 (by simp; omega)
    simpa using this
  have e1 : shW s 32 = s * 4294967296 := shW_small (a := s) 32 s0 (by simp; omega)
  have e2 : shW y 40 = y * 1099511627776 := shW_small (a := y) 40 y0 (by simp; omega)
  rw [e0, e1, e2, orW_zero ⟨m0, by omega⟩]
  have o1 : orW m (s * 4294967296) = m + s * 4294967296 := orW_add (a := m) (b := s) 32 m0 (by simp; omega) s0 (by simp; omega)
  have o2 : orW (m + s * 4294967296) (y * 1099511627776) = m + s * 4294967296 + y * 1099511627776 := orW_add (a := m + s * 4294967296) (b := y) 40 (by omega) (by simp; omega) y0 (by simp; omega)
  rw [o1, o2]
  unfold u64
  omega
/-- the kinds of frames. -/
def Knd (k : Int) : Prop := k = 1 ∨ k = 2 ∨ k = 3 ∨ k = 4 ∨ k = 65 ∨ k = 66 ∨ k = 67 ∨ k = 68 ∨ k = 69
set_option maxHeartbeats 1000000 in
theorem fr_la (k : Int) (hk : Knd k) (f : Int → Int) (hb : ∀ t ∈ tagsL k, 0 ≤ f t ∧ f t ≤ bnd t) : frW k (only (tagsL k) f) (tagsL k) = laW k f (tagsL k) := by
  rcases hk with rfl | rfl | rfl | rfl | rfl | rfl | rfl | rfl | rfl
  · obtain ⟨m0, m1⟩ := hb 1 (by simp [tagsL])
    obtain ⟨s0, s1⟩ := hb 54 (by simp [tagsL])
    obtain ⟨y0, y1⟩ := hb 40 (by simp [tagsL])
    simp only [bnd] at m1 s1 y1
    have h3 := or_three m0 (by simpa using m1) s0 (by simpa using s1) y0 (by simpa using y1)
    rw [or_one, Int.zero_add] at h3
    simp [tagsL, frW, laW, fstep, lstep, plW, plU, plB, zeros, only, or_one, h3]
  · simp [tagsL, frW, laW, fstep, lstep, plW, plU, plB, zeros, only, or_one]
  · simp [tagsL, frW, laW, fstep, lstep, plW, plU, plB, zeros, only, or_one]
  · simp [tagsL, frW, laW, fstep, lstep, plW, plU, plB, zeros, only, or_one]
  · obtain ⟨m0, m1⟩ := hb 1 (by simp [tagsL])
    obtain ⟨s0, s1⟩ := hb 54 (by simp [tagsL])
    obtain ⟨y0, y1⟩ := hb 40 (by simp [tagsL])
    simp only [bnd] at m1 s1 y1
    have h3 := or_three m0 (by simpa using m1) s0 (by simpa using s1) y0 (by simpa using y1)
    rw [or_one, Int.zero_add] at h3
    simp [tagsL, frW, laW, fstep, lstep, plW, plU, plB, zeros, only, or_one, h3]
  · simp [tagsL, frW, laW, fstep, lstep, plW, plU, plB, zeros, only, or_one]
  · simp [tagsL, frW, laW, fstep, lstep, plW, plU, plB, zeros, only, or_one]
  · simp [tagsL, frW, laW, fstep, lstep, plW, plU, plB, zeros, only, or_one]
  · simp [tagsL, frW, laW, fstep, lstep, plW, plU, plB, zeros, only, or_one]
end Go.Proofs.Ytnhipamajelalaa
