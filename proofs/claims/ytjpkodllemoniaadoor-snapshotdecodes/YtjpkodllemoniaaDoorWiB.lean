/-
  Contracts of the check sums: wire.Sum, bourseref02.Sum.
-/
import Derived.Test.YtjpkodllemoniaaDoorRows
import Derived.Test.YtjpkodllemoniaaDoorWiA
import Derived.WalkKit
import Derived.WalkLawsBesides
import Derived.RowKit3
import Derived.Deep.OwnRows
namespace Go.Proofs.YtjpkodllemoniaaDoor.Wi
open Go.RowKit Go.Deep Go.Proofs.YtjpkodllemoniaaDoor.Crc
set_option linter.unusedVariables false
theorem hid {p : Prop} (h : p) : Hid p := h

/-- the table lies where the program's text lays it. -/
def Laid (w : World) : Prop := ∀ k : Nat, k < 16 → w.cell? ⟨0, k, none⟩ = some (.int .u32 (tab k : Nat))
/-- bytes in memory, from a place on. -/
def Bs (w : World) (b o : Nat) (xs : List Nat) : Prop := ∀ i (h : i < xs.length), w.cell? ⟨b, o + i, none⟩ = some (.int .u8 ((xs[i] : Nat) : Int))
def Oct (xs : List Nat) : Prop := ∀ x ∈ xs, x < 256

set_option maxHeartbeats 1000000 in
set_option maxRecDepth 100000 in
theorem wsum_some (xs : List Nat) (b o cap : Nat) (w : World) (hl : xs.length < 9223372036854775808) (hx : Oct xs) (hB : Bs w b o xs) (hL : Laid w) :
    Calls Tryd.prog 18 #[.slice (some ⟨b, o, none⟩) xs.length cap] w fun e w' => e = .returned (.int .u32 (crc xs : Nat)) ∧ w' = w := by
  have HB := hid hB
  have HL := hid hL
  have HX := hid hx
  clear hB hL hx
  go_enter Tryd.func18, Tryd.ntmps18
  go_wp2_with fail
  go_loopw [3, 5, 8] (fun sv _ iv wr => ∃ (k c : Nat), k ≤ xs.length ∧ iv = .int .i64 k ∧ sv = .int .u32 c ∧ c < 4294967296 ∧ Hid (run (xs.take k) 4294967295 = c) ∧ wr = w) (fun _ _ iv _ => xs.length - (intOf iv).toNat)
  case atStart => exact ⟨0, 4294967295, Nat.zero_le _, rfl, rfl, by decide, rfl, rfl⟩
  case round =>
    obtain ⟨k, c, hk, rfl, rfl, hc, HR, rfl⟩ := hrel
    by_cases hlt : k < xs.length
    · obtain ⟨x, hx⟩ : ∃ x, xs[k] = x := ⟨_, rfl⟩
      have x1 : x < 256 := by rw [← hx]; exact HX.out _ (List.getElem_mem hlt)
      have hcell := HB.out k hlt
      rw [hx] at hcell
      have i0 : (0 : Int) ≤ (k : Int) := by omega
      have i1 : (k : Int) < (xs.length : Int) := by omega
      obtain ⟨s1, h1⟩ : ∃ s, c ^^^ x = s := ⟨_, rfl⟩
      have l1 : s1 < 4294967296 := by rw [← h1]; exact xor_lt c x hc (by omega)
      have e1 : bits .xor .u32 (c : Int) (x : Int) = (s1 : Int) := by rw [u32_xor_nat c x hc (by omega), h1]
      obtain ⟨r1, hr1⟩ : ∃ r, s1 % 16 = r := ⟨_, rfl⟩
      obtain ⟨q1, hq1⟩ : ∃ r, s1 / 16 = r := ⟨_, rfl⟩
      have r1l : r1 < 16 := by omega
      have e2 : bits .and .u32 (s1 : Int) 15 = (r1 : Int) := by
        have := u32_and_nat s1 15 l1 (by decide)
        rw [show ((15 : Nat) : Int) = 15 from rfl, show s1 &&& 15 = s1 % 16 from Nat.and_two_pow_sub_one_eq_mod s1 4, hr1] at this
        exact this
      have e3 : (s1 : Int) / 16 = (q1 : Int) := by omega
      have t1 := HL.out r1 r1l
      obtain ⟨T1, hT1⟩ : ∃ r, tab r1 = r := ⟨_, rfl⟩
      rw [hT1] at t1
      obtain ⟨s2, h2⟩ : ∃ s, q1 ^^^ T1 = s := ⟨_, rfl⟩
      have n1 : nib s1 = s2 := by unfold nib; rw [hr1, hq1, hT1, h2]
      have l2 : s2 < 4294967296 := by rw [← n1]; exact nib_lt _ l1
      have e4 : bits .xor .u32 (q1 : Int) (T1 : Int) = (s2 : Int) := by rw [u32_xor_nat q1 T1 (by omega) (by rw [← hT1]; exact tab_lt _ r1l), h2]
      obtain ⟨r2, hr2⟩ : ∃ r, s2 % 16 = r := ⟨_, rfl⟩
      obtain ⟨q2, hq2⟩ : ∃ r, s2 / 16 = r := ⟨_, rfl⟩
      have r2l : r2 < 16 := by omega
      have e5 : bits .and .u32 (s2 : Int) 15 = (r2 : Int) := by
        have := u32_and_nat s2 15 l2 (by decide)
        rw [show ((15 : Nat) : Int) = 15 from rfl, show s2 &&& 15 = s2 % 16 from Nat.and_two_pow_sub_one_eq_mod s2 4, hr2] at this
        exact this
      have e6 : (s2 : Int) / 16 = (q2 : Int) := by omega
      have t2 := HL.out r2 r2l
      obtain ⟨T2, hT2⟩ : ∃ r, tab r2 = r := ⟨_, rfl⟩
      rw [hT2] at t2
      obtain ⟨s3, h3⟩ : ∃ s, q2 ^^^ T2 = s := ⟨_, rfl⟩
      have n2 : nib s2 = s3 := by unfold nib; rw [hr2, hq2, hT2, h3]
      have l3 : s3 < 4294967296 := by rw [← n2]; exact nib_lt _ l2
      have e7 : bits .xor .u32 (q2 : Int) (T2 : Int) = (s3 : Int) := by rw [u32_xor_nat q2 T2 (by omega) (by rw [← hT2]; exact tab_lt _ r2l), h3]
      have HR2 := hid (show run (xs.take (k + 1)) 4294967295 = s3 by
        rw [List.take_succ_eq_append_getElem hlt, run_snoc, HR.out, hx]
        unfold byte; rw [h1, n1, n2])
      clear h1 h2 h3 n1 n2 hr1 hq1 hr2 hq2 hT1 hT2 hx
      go_wp2
      go_roundw
      case rel => exact ⟨k + 1, s3, by omega, by go_num, rfl, l3, HR2, trivial⟩
      case measure => simp [intOf]; omega
    · have hc2 := HR.out
      rw [List.take_of_length_le (by omega)] at hc2
      have HC := hid (show 4294967295 - c = crc xs by unfold crc; rw [hc2])
      have eN : bits .xor .u32 IntKind.u32.max (c : Int) = ((crc xs : Nat) : Int) := by
        have hm : IntKind.u32.max = ((4294967295 : Nat) : Int) := by decide
        rw [hm, u32_xor_nat 4294967295 c (by decide) hc, Nat.xor_comm, not_xor c hc, HC.out]
      clear hc2 HC
      go_wp2
      go_ret
      exact ⟨rfl, rfl⟩
set_option maxHeartbeats 400000 in
theorem wsum_none (p : Option Addr) (cap : Nat) (w : World) :
    Calls Tryd.prog 18 #[.slice p 0 cap] w fun e w' => e = .returned (.int .u32 (crc [] : Nat)) ∧ w' = w := by
  go_enter Tryd.func18, Tryd.ntmps18
  go_wp2_with fail
  go_loopw [3, 5, 8] (fun sv _ iv wr => iv = .int .i64 0 ∧ sv = .int .u32 4294967295 ∧ wr = w) (fun _ _ _ _ => 0)
  case atStart => exact ⟨rfl, rfl, rfl⟩
  case round =>
    obtain ⟨rfl, rfl, rfl⟩ := hrel
    have eN : bits .xor .u32 IntKind.u32.max 4294967295 = ((crc [] : Nat) : Int) := by decide
    go_wp2
    go_ret
    exact ⟨rfl, rfl⟩

/-- a slice of bytes. -/
def Sl (w : World) (v : Value) (xs : List Nat) : Prop :=
  (xs = [] ∧ ∃ p cap, v = .slice p 0 cap) ∨ ∃ b o cap, v = .slice (some ⟨b, o, none⟩) xs.length cap ∧ Bs w b o xs
theorem wsum_any (v : Value) (xs : List Nat) (w : World) (hl : xs.length < 9223372036854775808) (hx : Oct xs) (hB : Sl w v xs) (hL : Laid w) :
    Calls Tryd.prog 18 #[v] w fun e w' => e = .returned (.int .u32 (crc xs : Nat)) ∧ w' = w := by
  rcases hB with ⟨rfl, p, cap, rfl⟩ | ⟨b, o, cap, rfl, hB⟩
  · exact wsum_none p cap w
  · exact wsum_some xs b o cap w hl hx hB hL

set_option maxHeartbeats 1000000 in
set_option maxRecDepth 100000 in
theorem rsum_some (xs : List Nat) (b o cap : Nat) (w : World) (hl : xs.length < 9223372036854775808) (hx : Oct xs) (hB : Bs w b o xs) :
    Calls Tryd.prog 21 #[.slice (some ⟨b, o, none⟩) xs.length cap] w fun e w' => e = .returned (.int .u32 (crc xs : Nat)) ∧ w' = w := by
  have HB := hid hB
  have HX := hid hx
  clear hB hx
  go_enter Tryd.func21, Tryd.ntmps21
  go_wp2_with fail
  go_loopw [3, 4, 5, 6] (fun sv iv _ _ wr => ∃ (k c : Nat), k ≤ xs.length ∧ iv = .int .i64 k ∧ sv = .int .u32 c ∧ c < 4294967296 ∧ Hid (run (xs.take k) 4294967295 = c) ∧ wr = w) (fun _ iv _ _ _ => xs.length - (intOf iv).toNat)
  case atStart => exact ⟨0, 4294967295, Nat.zero_le _, rfl, rfl, by decide, rfl, rfl⟩
  case round =>
    obtain ⟨k, c, hk, rfl, rfl, hc, HR, rfl⟩ := hrel
    by_cases hlt : k < xs.length
    · obtain ⟨x, hx⟩ : ∃ x, xs[k] = x := ⟨_, rfl⟩
      have x1 : x < 256 := by rw [← hx]; exact HX.out _ (List.getElem_mem hlt)
      have hcell := HB.out k hlt
      rw [hx] at hcell
      have i0 : (0 : Int) ≤ (k : Int) := by omega
      have i1 : (k : Int) < (xs.length : Int) := by omega
      obtain ⟨s1, h1⟩ : ∃ s, c ^^^ x = s := ⟨_, rfl⟩
      have l1 : s1 < 4294967296 := by rw [← h1]; exact xor_lt c x hc (by omega)
      have e1 : bits .xor .u32 (c : Int) (x : Int) = (s1 : Int) := by rw [u32_xor_nat c x hc (by omega), h1]
      have HR2 := hid (show run (xs.take (k + 1)) 4294967295 = bits8 8 s1 by
        rw [List.take_succ_eq_append_getElem hlt, run_snoc, HR.out, hx]
        unfold byte; rw [h1, ← nib_bits, ← nib_bits]; rfl)
      clear h1 hx
      go_wp2
      go_loopw [3, 5, 6] (fun sv jv _ wq => ∃ (j d : Nat), j ≤ 8 ∧ jv = .int .i64 j ∧ sv = .int .u32 d ∧ d < 4294967296 ∧ Hid (bits8 j s1 = d) ∧ wq = wr) (fun _ jv _ _ => 8 - (intOf jv).toNat)
      case atStart => exact ⟨0, s1, by decide, rfl, rfl, l1, rfl, rfl⟩
      case round =>
        obtain ⟨j, d, hj, rfl, rfl, hd, HD, rfl⟩ := hrel
        by_cases hj8 : j < 8
        · have hlt8 : (j : Int) < 8 := by omega
          obtain ⟨g, hg⟩ : ∃ g, bit d = g := ⟨_, rfl⟩
          have gl : g < 4294967296 := by rw [← hg]; exact bit_lt d hd
          have HD2 := hid (show bits8 (j + 1) s1 = g by rw [bits8, HD.out, hg])
          obtain ⟨q, hq⟩ : ∃ q, d / 2 = q := ⟨_, rfl⟩
          by_cases od : d % 2 = 1
          · have e3 : (d : Int) % 2 = 1 := by omega
            have e2 : ((d : Int) % 2 == 1) = true := by rw [e3]; rfl
            have e4 : (d : Int) / 2 = (q : Int) := by omega
            have e5 : bits .xor .u32 (q : Int) 3988292384 = (g : Int) := by
              have := u32_xor_nat q 3988292384 (by omega) (by decide)
              rw [← hg, show bit d = q ^^^ 3988292384 from by unfold bit; rw [if_pos od, hq]]
              exact this
            clear hg od hq
            go_wp2
            go_roundw
            case rel => exact ⟨j + 1, g, by omega, by go_num, rfl, gl, HD2, trivial⟩
            case measure => simp [intOf]; omega
          · have e3 : (d : Int) % 2 = 0 := by omega
            have e2 : ((d : Int) % 2 == 1) = false := by rw [e3]; rfl
            have e4 : (d : Int) / 2 = (g : Int) := by
              have : g = d / 2 := by rw [← hg]; unfold bit; rw [if_neg od]
              omega
            clear hg od hq
            go_wp2
            go_roundw
            case rel => exact ⟨j + 1, g, by omega, by go_num, rfl, gl, HD2, trivial⟩
            case measure => simp [intOf]; omega
        · have hj' : j = 8 := by omega
          subst hj'
          have HR3 := hid (HR2.out.trans HD.out)
          go_wp2
          go_roundw
          case rel => exact ⟨k + 1, d, by omega, by go_num, rfl, hd, HR3, trivial⟩
          case measure => simp [intOf]; omega
    · have hc2 := HR.out
      rw [List.take_of_length_le (by omega)] at hc2
      have HC := hid (show 4294967295 - c = crc xs by unfold crc; rw [hc2])
      have eN : bits .xor .u32 (c : Int) 4294967295 = ((crc xs : Nat) : Int) := by
        have := u32_xor_nat c 4294967295 hc (by decide)
        rw [not_xor c hc, HC.out] at this
        exact this
      clear hc2 HC
      go_wp2
      go_ret
      exact ⟨rfl, rfl⟩
set_option maxHeartbeats 400000 in
theorem rsum_none (p : Option Addr) (cap : Nat) (w : World) :
    Calls Tryd.prog 21 #[.slice p 0 cap] w fun e w' => e = .returned (.int .u32 (crc [] : Nat)) ∧ w' = w := by
  go_enter Tryd.func21, Tryd.ntmps21
  go_wp2_with fail
  go_loopw [3, 4, 5, 6] (fun sv iv _ _ wr => iv = .int .i64 0 ∧ sv = .int .u32 4294967295 ∧ wr = w) (fun _ _ _ _ _ => 0)
  case atStart => exact ⟨rfl, rfl, rfl⟩
  case round =>
    obtain ⟨rfl, rfl, rfl⟩ := hrel
    have eN : bits .xor .u32 4294967295 4294967295 = ((crc [] : Nat) : Int) := by decide
    go_wp2
    go_ret
    exact ⟨rfl, rfl⟩
theorem rsum_any (v : Value) (xs : List Nat) (w : World) (hl : xs.length < 9223372036854775808) (hx : Oct xs) (hB : Sl w v xs) :
    Calls Tryd.prog 21 #[v] w fun e w' => e = .returned (.int .u32 (crc xs : Nat)) ∧ w' = w := by
  rcases hB with ⟨rfl, p, cap, rfl⟩ | ⟨b, o, cap, rfl, hB⟩
  · exact rsum_none p cap w
  · exact rsum_some xs b o cap w hl hx hB
end Go.Proofs.YtjpkodllemoniaaDoor.Wi
