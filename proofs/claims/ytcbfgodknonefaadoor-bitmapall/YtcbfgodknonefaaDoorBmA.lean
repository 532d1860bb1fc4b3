/-
  Contracts of the bits and of the map's plain calls.
-/
import Derived.Test.YtcbfgodknonefaaDoorRows
import Derived.Test.YtcbfgodknonefaaDoorBmN
import Derived.WalkKit
import Derived.WalkLawsBesides
import Derived.RowKit3
import Derived.Deep.OwnRows
namespace Go.Proofs.YtcbfgodknonefaaDoor
open Go.RowKit Go.Deep Bt
set_option linter.unusedVariables false
set_option maxRecDepth 100000
set_option maxHeartbeats 1000000
theorem hid {p : Prop} (h : p) : Hid p := h

/-- a map lies in a block. -/
def Bm (w : World) (b : Nat) (S : Nat → Bool) : Prop := ∃ row : Array Value, w.heap[b]? = some (.cells row 28 (0, 0)) ∧ row.size = 4161 ∧ ∀ i, i < 4161 → row[i]? = some (.int .u64 (cellv S i : Nat))
theorem Bm.cell {w : World} {b : Nat} {S : Nat → Bool} (h : Bm w b S) (i : Nat) (hi : i < 4161) : w.cell? ⟨b, i, none⟩ = some (.int .u64 (cellv S i : Nat)) := by
  obtain ⟨row, h1, h2, h3⟩ := h
  have := h3 i hi
  simp [World.cell?, h1, this]
theorem Bm.top {w : World} {b : Nat} {S : Nat → Bool} (h : Bm w b S) : w.cell? ⟨b, 0, none⟩ = some (.int .u64 (tp S : Nat)) := h.cell 0 (by omega)
theorem Bm.mid {w : World} {b : Nat} {S : Nat → Bool} (h : Bm w b S) (i : Nat) (hi : i < 64) : w.cell? ⟨b, 1 + i, none⟩ = some (.int .u64 (mi S i : Nat)) := by
  rw [h.cell (1 + i) (by omega)]
  unfold cellv
  rw [if_neg (by omega), if_pos (by omega), Nat.add_sub_cancel_left]
theorem Bm.low {w : World} {b : Nat} {S : Nat → Bool} (h : Bm w b S) (i : Nat) (hi : i < 4096) : w.cell? ⟨b, 65 + i, none⟩ = some (.int .u64 (lo S i : Nat)) := by
  rw [h.cell (65 + i) (by omega)]
  unfold cellv
  rw [if_neg (by omega), if_neg (by omega), Nat.add_sub_cancel_left]

theorem top_any (b : Nat) (S : Nat → Bool) (w : World) (hB : Bm w b S) :
    Calls Tryd.prog 19 #[.pointer (some ⟨b, 0, none⟩)] w fun e w' => e = .returned (.int .u64 (tp S : Nat)) ∧ w' = w := by
  have h1 := hB.top
  clear hB
  go_enter Tryd.func19, Tryd.ntmps19
  go_wp2_with fail
  go_ret
  exact ⟨rfl, rfl⟩
/-- what Low says. -/
def loI (S : Nat → Bool) (i : Int) : Nat := if 0 ≤ i ∧ i < 4096 then lo S i.toNat else 0
theorem low_any (b : Nat) (S : Nat → Bool) (i : Int) (w : World) (hB : Bm w b S) :
    Calls Tryd.prog 20 #[.pointer (some ⟨b, 0, none⟩), .int .i64 i] w fun e w' => e = .returned (.int .u64 (loI S i : Nat)) ∧ w' = w := by
  by_cases h : 0 ≤ i ∧ i < 4096
  · obtain ⟨k, rfl⟩ : ∃ k : Nat, i = k := ⟨i.toNat, by omega⟩
    have h1 := hB.low k (by omega)
    have h2 : (k : Int) < 4096 := h.2
    have h3 : (0 : Int) ≤ (k : Int) := h.1
    have HE := hid (show loI S (k : Int) = lo S k by unfold loI; rw [if_pos h]; rfl)
    clear hB h
    go_enter Tryd.func20, Tryd.ntmps20
    go_wp2_with fail
    go_ret
    exact ⟨by rw [HE.out]; rfl, rfl⟩
  · have HE := hid (show loI S i = 0 by unfold loI; rw [if_neg h])
    by_cases h0 : i < 0
    · clear h hB
      go_enter Tryd.func20, Tryd.ntmps20
      go_wp2_with fail
      go_ret
      exact ⟨by rw [HE.out]; rfl, rfl⟩
    · have h1 : 0 ≤ i := by omega
      have h2 : 4096 ≤ i := by omega
      clear h hB h0
      go_enter Tryd.func20, Tryd.ntmps20
      go_wp2_with fail
      go_ret
      exact ⟨by rw [HE.out]; rfl, rfl⟩
def miI (S : Nat → Bool) (i : Int) : Nat := if 0 ≤ i ∧ i < 64 then mi S i.toNat else 0
theorem mid_any (b : Nat) (S : Nat → Bool) (i : Int) (w : World) (hB : Bm w b S) :
    Calls Tryd.prog 22 #[.pointer (some ⟨b, 0, none⟩), .int .i64 i] w fun e w' => e = .returned (.int .u64 (miI S i : Nat)) ∧ w' = w := by
  by_cases h : 0 ≤ i ∧ i < 64
  · obtain ⟨k, rfl⟩ : ∃ k : Nat, i = k := ⟨i.toNat, by omega⟩
    have h1 := hB.mid k (by omega)
    have h2 : (k : Int) < 64 := h.2
    have h3 : (0 : Int) ≤ (k : Int) := h.1
    have HE := hid (show miI S (k : Int) = mi S k by unfold miI; rw [if_pos h]; rfl)
    clear hB h
    go_enter Tryd.func22, Tryd.ntmps22
    go_wp2_with fail
    go_ret
    exact ⟨by rw [HE.out]; rfl, rfl⟩
  · have HE := hid (show miI S i = 0 by unfold miI; rw [if_neg h])
    by_cases h0 : i < 0
    · clear h hB
      go_enter Tryd.func22, Tryd.ntmps22
      go_wp2_with fail
      go_ret
      exact ⟨by rw [HE.out]; rfl, rfl⟩
    · have h1 : 0 ≤ i := by omega
      have h2 : 64 ≤ i := by omega
      clear h hB h0
      go_enter Tryd.func22, Tryd.ntmps22
      go_wp2_with fail
      go_ret
      exact ⟨by rw [HE.out]; rfl, rfl⟩
theorem isTick_any (n : Int) (w : World) :
    Calls Tryd.prog 30 #[.int .i64 n] w fun e w' => e = .returned (.bool (decide (0 ≤ n) && decide (n < 262144))) ∧ w' = w := by
  by_cases h0 : 0 ≤ n
  · go_enter Tryd.func30, Tryd.ntmps30
    go_wp2_with fail
    go_ret
    exact ⟨by simp [h0], rfl⟩
  · have h1 : n < 0 := by omega
    go_enter Tryd.func30, Tryd.ntmps30
    go_wp2_with fail
    go_ret
    have h3 : decide (0 ≤ n) = false := decide_eq_false (by omega)
    exact ⟨by rw [h3]; rfl, rfl⟩
theorem wrapn (n : Nat) (h : n < 18446744073709551616) : IntKind.u64.wrap (n : Int) = (n : Int) := by
  rw [show IntKind.u64.wrap (n : Int) = (n : Int) % 18446744073709551616 by simp [IntKind.wrap, IntKind.bits, IntKind.signed]]
  omega
theorem pow_lt64 (b : Nat) (h : b < 64) : 2 ^ b < 18446744073709551616 := Nat.pow_lt_pow_right (a := 2) (m := b) (n := 64) (by decide) h
theorem bit_any (k : Nat) (w : World) (hk : k < 262144) :
    Calls Tryd.prog 31 #[.int .i64 k] w fun e w' => e = .returned (.int .u64 (2 ^ (k % 64) : Nat)) ∧ w' = w := by
  have e : IntKind.u64.wrap (2 ^ (k % 64)) = ((2 ^ (k % 64) : Nat) : Int) := by
    have := wrapn (2 ^ (k % 64)) (pow_lt64 _ (by omega))
    rw [← this]; congr 1
  have HE := hid e
  clear e
  go_enter Tryd.func31, Tryd.ntmps31
  go_wp2_with fail
  go_ret
  exact ⟨by rw [← HE.out]; rfl, rfl⟩
theorem notBelow_any (x b : Nat) (w : World) (hx : x < 18446744073709551616) (hb : b ≤ 64) :
    Calls Tryd.prog 42 #[.int .u64 x, .int .i64 b] w fun e w' => e = .returned (.int .u64 (x / 2 ^ b * 2 ^ b : Nat)) ∧ w' = w := by
  have e : IntKind.u64.wrap ((x : Int) / 2 ^ b * 2 ^ b) = ((x / 2 ^ b * 2 ^ b : Nat) : Int) := by
    have := wrapn (x / 2 ^ b * 2 ^ b) (Nat.lt_of_le_of_lt (Nat.div_mul_le_self x (2 ^ b)) hx)
    rw [← this]; congr 1
  have HE := hid e
  clear e
  go_enter Tryd.func42, Tryd.ntmps42
  go_wp2_with fail
  go_ret
  exact ⟨by rw [← HE.out]; rfl, rfl⟩
theorem notAbove_any (x r : Nat) (w : World) (hx : x < 18446744073709551616) (hb : r ≤ 64) :
    Calls Tryd.prog 44 #[.int .u64 x, .int .i64 ((r : Int) - 1)] w fun e w' => e = .returned (.int .u64 (x % 2 ^ r : Nat)) ∧ w' = w := by
  have e : IntKind.u64.wrap ((x : Int) * 2 ^ (63 - ((r : Int) - 1)).toNat) / 2 ^ (63 - ((r : Int) - 1)).toNat = ((x % 2 ^ r : Nat) : Int) := by
    rw [show (63 - ((r : Int) - 1)).toNat = 64 - r by omega]
    rw [show IntKind.u64.wrap ((x : Int) * 2 ^ (64 - r)) = ((x : Int) * 2 ^ (64 - r)) % 18446744073709551616 by simp [IntKind.wrap, IntKind.bits, IntKind.signed]]
    have h1 : 18446744073709551616 = 2 ^ r * 2 ^ (64 - r) := by rw [← Nat.pow_add, show r + (64 - r) = 64 by omega]
    have h2 : (x * 2 ^ (64 - r)) % 18446744073709551616 / 2 ^ (64 - r) = x % 2 ^ r := by
      rw [h1, Nat.mul_mod_mul_right, Nat.mul_div_cancel _ (Nat.two_pow_pos _)]
    rw [← h2]; simp
  have HE := hid e
  clear e
  go_enter Tryd.func44, Tryd.ntmps44
  go_wp2_with fail
  go_ret
  exact ⟨by rw [← HE.out]; rfl, rfl⟩
/-- the table of math/bits lies. -/
def tbl (k : Nat) : Nat := [0, 1, 56, 2, 57, 49, 28, 3, 61, 58, 42, 50, 38, 29, 17, 4, 62, 47, 59, 36, 45, 43, 51, 22, 53, 39, 33, 30, 24, 18, 12, 5, 63, 55, 48, 27, 60, 41, 37, 16, 46, 35, 44, 21, 52, 32, 23, 11, 54, 26, 40, 15, 34, 20, 31, 10, 25, 14, 19, 9, 13, 8, 7, 6].getD k 0
def Laid (w : World) : Prop := ∀ k : Nat, k < 64 → w.cell? ⟨0, k, none⟩ = some (.int .u8 (tbl k : Nat))
theorem tbl_at : ∀ k : Fin 64, tbl (2 ^ k.val * 285870213051353865 % 18446744073709551616 / 288230376151711744) = k.val := by decide +kernel
theorem tz_any (x k : Nat) (w : World) (hx : x < 18446744073709551616) (h : Lsb x k) (hL : Laid w) :
    Calls Tryd.prog 53 #[.int .u64 x] w fun e w' => e = .returned (.int .i64 k) ∧ w' = w := by
  have hk : k < 64 := bit_small (n := 64) hx h.1
  have h0 : x ≠ 0 := by rintro rfl; have := h.1; simp at this
  have e1 : IntKind.u64.wrap (-(x : Int)) = ((18446744073709551616 - x : Nat) : Int) := by
    rw [show IntKind.u64.wrap (-(x : Int)) = (-(x : Int)) % 18446744073709551616 by simp [IntKind.wrap, IntKind.bits, IntKind.signed]]
    omega
  obtain ⟨y, hy⟩ : ∃ y, 18446744073709551616 - x = y := ⟨_, rfl⟩
  have e2 : bits .and .u64 (x : Int) (y : Int) = ((2 ^ k : Nat) : Int) := by
    rw [u64_and_nat x y hx (by omega), ← hy]
    rw [show x &&& (18446744073709551616 - x) = 2 ^ k from and_neg (x := x) hx h]
  obtain ⟨p, hp⟩ : ∃ p, 2 ^ k = p := ⟨_, rfl⟩
  have p1 : p < 18446744073709551616 := by rw [← hp]; exact pow_lt64 k hk
  obtain ⟨r, hr⟩ : ∃ r, p * 285870213051353865 % 18446744073709551616 = r := ⟨_, rfl⟩
  have e3 : IntKind.u64.wrap ((p : Int) * 285870213051353865) = (r : Int) := by
    rw [show IntKind.u64.wrap ((p : Int) * 285870213051353865) = ((p : Int) * 285870213051353865) % 18446744073709551616 by simp [IntKind.wrap, IntKind.bits, IntKind.signed]]
    omega
  obtain ⟨q, hq⟩ : ∃ q, r / 288230376151711744 = q := ⟨_, rfl⟩
  have e4 : (r : Int) / 288230376151711744 = (q : Int) := by omega
  have q1 : q < 64 := by omega
  have hc := hL q q1
  have ht := tbl_at ⟨k, hk⟩
  dsimp only at ht
  rw [hp, hr, hq] at ht
  rw [hp] at e2
  rw [hy] at e1
  rw [ht] at hc
  have hx0 : ¬ ((x : Int) = 0) := by omega
  clear hp ht hL h hy hr hq
  go_enter Tryd.func53, Tryd.ntmps53
  go_wp2_with fail
  go_ret
  exact ⟨rfl, rfl⟩
theorem lowest_any (x k : Nat) (w : World) (hx : x < 18446744073709551616) (h : Lsb x k) (hL : Laid w) :
    Calls Tryd.prog 43 #[.int .u64 x] w fun e w' => e = .returned (.int .i64 k) ∧ w' = w := by
  have C := hid (tz_any x k w hx h hL)
  clear hL h
  go_enter Tryd.func43, Tryd.ntmps43
  go_wp2_with (go_at_call 53; refine (C.out).mono ?_; rintro e w' ⟨rfl, rfl⟩)
  go_ret
  exact ⟨rfl, rfl⟩
theorem andn (a m : Nat) (ha : a < 18446744073709551616) (hm : m < 18446744073709551616) : bits .and .u64 (a : Int) (m : Int) = ((a &&& m : Nat) : Int) := u64_and_nat a m ha hm
theorem addn (a b c : Nat) (h : a + b = c) (hc : c < 18446744073709551616) : IntKind.u64.wrap ((a : Int) + (b : Int)) = (c : Int) := by
  rw [show ((a : Int) + (b : Int)) = ((c : Nat) : Int) by omega]; exact wrapn c hc
theorem ones_any (x : Nat) (w : World) (hx : x < 18446744073709551616) :
    Calls Tryd.prog 47 #[.int .u64 x] w fun e w' => e = .returned (.int .i64 (pop x : Nat)) ∧ w' = w := by
  obtain ⟨y1, y2, c, c1, c2, c3, h1, h2, h3, h4, h5, h6, h7, g1, g2, g3, g4, g5, g6⟩ := ones_way x hx
  unfold s1 at h1
  unfold s2 at h2
  unfold s3 at h3
  obtain ⟨a1, ha1⟩ : ∃ a, x / 2 = a := ⟨_, rfl⟩
  have i1 : (x : Int) / 2 = (a1 : Int) := by omega
  obtain ⟨a2, ha2⟩ : ∃ a, a1 &&& 6148914691236517205 = a := ⟨_, rfl⟩
  have l2 : a2 ≤ 6148914691236517205 := by rw [← ha2]; exact Nat.and_le_right
  have i2 : bits .and .u64 (a1 : Int) 6148914691236517205 = (a2 : Int) := by
    rw [← ha2]; exact andn a1 6148914691236517205 (by omega) (by decide)
  obtain ⟨a3, ha3⟩ : ∃ a, x &&& 6148914691236517205 = a := ⟨_, rfl⟩
  have l3 : a3 ≤ 6148914691236517205 := by rw [← ha3]; exact Nat.and_le_right
  have i3 : bits .and .u64 (x : Int) 6148914691236517205 = (a3 : Int) := by
    rw [← ha3]; exact andn x 6148914691236517205 (by omega) (by decide)
  rw [ha1, ha2, ha3] at h1
  have i4 : (a2 : Int) + (a3 : Int) = (y1 : Int) := by omega
  obtain ⟨b1, hb1⟩ : ∃ a, y1 / 4 = a := ⟨_, rfl⟩
  have j1 : (y1 : Int) / 4 = (b1 : Int) := by omega
  obtain ⟨b2, hb2⟩ : ∃ a, b1 &&& 3689348814741910323 = a := ⟨_, rfl⟩
  have m2 : b2 ≤ 3689348814741910323 := by rw [← hb2]; exact Nat.and_le_right
  have j2 : bits .and .u64 (b1 : Int) 3689348814741910323 = (b2 : Int) := by
    rw [← hb2]; exact andn b1 3689348814741910323 (by omega) (by decide)
  obtain ⟨b3, hb3⟩ : ∃ a, y1 &&& 3689348814741910323 = a := ⟨_, rfl⟩
  have m3 : b3 ≤ 3689348814741910323 := by rw [← hb3]; exact Nat.and_le_right
  have j3 : bits .and .u64 (y1 : Int) 3689348814741910323 = (b3 : Int) := by
    rw [← hb3]; exact andn y1 3689348814741910323 (by omega) (by decide)
  rw [hb1, hb2, hb3] at h2
  have j4 : (b2 : Int) + (b3 : Int) = (y2 : Int) := by omega
  obtain ⟨d1, hd1⟩ : ∃ a, y2 / 16 = a := ⟨_, rfl⟩
  have k1 : (y2 : Int) / 16 = (d1 : Int) := by omega
  obtain ⟨d2, hd2⟩ : ∃ a, d1 + y2 = a := ⟨_, rfl⟩
  have k2 : (d1 : Int) + (y2 : Int) = (d2 : Int) := by omega
  rw [hd1, hd2] at h3
  have k3 : bits .and .u64 (d2 : Int) 1085102592571150095 = (c : Int) := by
    rw [← h3]; exact andn d2 1085102592571150095 (by omega) (by decide)
  obtain ⟨f1, hf1⟩ : ∃ a, c / 256 = a := ⟨_, rfl⟩
  have n1 : (c : Int) / 256 = (f1 : Int) := by omega
  have n2 : (c : Int) + (f1 : Int) = (c1 : Int) := by omega
  obtain ⟨f2, hf2⟩ : ∃ a, c1 / 65536 = a := ⟨_, rfl⟩
  have n3 : (c1 : Int) / 65536 = (f2 : Int) := by omega
  have n4 : (c1 : Int) + (f2 : Int) = (c2 : Int) := by omega
  obtain ⟨f3, hf3⟩ : ∃ a, c2 / 4294967296 = a := ⟨_, rfl⟩
  have n5 : (c2 : Int) / 4294967296 = (f3 : Int) := by omega
  have n6 : (c2 : Int) + (f3 : Int) = (c3 : Int) := by omega
  obtain ⟨P, hP⟩ : ∃ P, pop x = P := ⟨_, rfl⟩
  have P1 : P ≤ 64 := by rw [← hP]; exact popn_le x 64
  rw [hP] at h7 ⊢
  have n7 : bits .and .i64 (c3 : Int) 127 = (P : Int) := by
    show IntKind.i64.wrap ((BitVec.ofInt 64 (c3 : Int) &&& BitVec.ofInt 64 ((127 : Nat) : Int)).toNat : Int) = _
    rw [BitVec.toNat_and, ofInt_u64 c3 (by omega), ofInt_u64 127 (by decide), show c3 &&& 127 = c3 % 128 from Nat.and_two_pow_sub_one_eq_mod c3 7, h7]
    simp [IntKind.wrap, IntKind.bits, IntKind.signed]
    omega
  have l4 : a1 < 18446744073709551616 := by omega
  have l5 : b1 < 18446744073709551616 := by omega
  have l6 : d1 < 18446744073709551616 := by omega
  have l7 : d2 < 18446744073709551616 := by omega
  clear h1 h2 h3 h4 h5 h6 h7 ha1 ha2 ha3 hb1 hb2 hb3 hd1 hd2 hf1 hf2 hf3 hP
  go_enter Tryd.func47, Tryd.ntmps47
  go_wp2_with fail
  go_ret
  exact ⟨rfl, rfl⟩
end Go.Proofs.YtcbfgodknonefaaDoor
