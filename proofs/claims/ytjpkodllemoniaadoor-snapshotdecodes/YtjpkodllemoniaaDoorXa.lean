/-
  Numbers of so many bytes, lowest first: lowest.Number, the document's get.
-/
import Derived.Test.YtjpkodllemoniaaDoorWiC
import Derived.Test.YtjpkodllemoniaaDoorCpA
import Derived.Test.YtjpkodllemoniaaDoorCpE
import Derived.Test.YtjpkodllemoniaaDoorWiF
import Derived.Laws.ResultCell
namespace Go.Proofs.YtjpkodllemoniaaDoor.Wi
open Go.RowKit Go.Deep Go.Proofs.YtjpkodllemoniaaDoor.Crc
open Go.Proofs.YtjpkodllemoniaaDoor.Cp (btr ball row_on row_cell row_lt bdrew1 bdrew)
set_option linter.unusedVariables false
set_option linter.unusedSimpArgs false
set_option maxHeartbeats 8000000
set_option maxRecDepth 100000
attribute [local go_sem ↓] Go.wp_at_zero Go.wp_at_succ
/-- the number whose bytes, lowest first, these are. -/
def num : List Nat → Nat
  | [] => 0
  | x :: l => x + 256 * num l
theorem num_snoc (l : List Nat) (x : Nat) : num (l ++ [x]) = num l + 256 ^ l.length * x := by
  induction l with
  | nil => simp [num]
  | cons y l ih => simp [num, ih, Nat.pow_succ, Nat.mul_add]; rw [← Nat.mul_assoc, Nat.mul_comm 256 (256 ^ l.length)]; omega
theorem num_lt (l : List Nat) (h : Oct l) : num l < 256 ^ l.length := by
  induction l with
  | nil => simp [num]
  | cons y l ih =>
    have h1 := h y (by simp)
    have h2 := ih (fun x hx => h x (by simp [hx]))
    simp only [num, List.length_cons, Nat.pow_succ]
    omega
theorem num_le (k v : Nat) (h : v < 256 ^ k) : num (le k v) = v := by
  induction k generalizing v with
  | zero => simp at h; simp [le, num, h]
  | succ k ih =>
    rw [Nat.pow_succ] at h
    simp only [le, num]
    rw [ih (v / 256) (by omega)]
    omega
theorem le_num (l : List Nat) (h : Oct l) : le l.length (num l) = l := by
  induction l with
  | nil => rfl
  | cons y l ih =>
    have h1 := h y (by simp)
    simp only [num, List.length_cons, le]
    rw [show (y + 256 * num l) % 256 = y by omega, show (y + 256 * num l) / 256 = num l by omega, ih (fun x hx => h x (by simp [hx]))]
theorem or_add (n x k : Nat) (h : n < 2 ^ k) : n ||| (x * 2 ^ k) = n + x * 2 ^ k := by
  rw [Nat.or_comm, Nat.mul_comm, ← Nat.two_pow_add_eq_or_of_lt h]
  omega

theorem number_any (xs : List Nat) (b o cap n : Nat) (w : World) (hl : xs.length = n) (hn8 : n ≤ 8) (hx : Oct xs) (hB : Bs w b o xs) :
    Calls Tryd.prog 41 #[.slice (some ⟨b, o, none⟩) n cap] w fun e w' => e = .returned (.int .u64 (num xs : Nat)) ∧ w' = w := by
  have HB := hid hB
  have HX := hid hx
  have HL := hid hl
  have H8 := hid hn8
  clear hB hx hl hn8
  go_enter Tryd.func41, Tryd.ntmps41
  go_wp2_with fail
  go_loopw [3, 4, 5, 8] (fun nv _ _ iv wr => ∃ (k a : Nat), k ≤ n ∧ iv = .int .i64 k ∧ nv = .int .u64 a ∧ a < 2 ^ (8 * k) ∧ Hid (num (xs.take k) = a) ∧ wr = w) (fun _ _ _ iv _ => n - (intOf iv).toNat)
  case atStart => exact ⟨0, 0, Nat.zero_le _, rfl, rfl, by decide, rfl, rfl⟩
  case round =>
    obtain ⟨k, a, hk, rfl, rfl, hn, HR, rfl⟩ := hrel
    by_cases hlt : k < n
    · have HLT := hid hlt
      have k8 : k < 8 := Nat.lt_of_lt_of_le hlt H8.out
      have kx : k < xs.length := by rw [HL.out]; exact hlt
      obtain ⟨x, hx⟩ : ∃ x, xs[k] = x := ⟨_, rfl⟩
      have x1 : x < 256 := by rw [← hx]; exact HX.out _ (List.getElem_mem _)
      have hcell := HB.out k kx
      rw [hx] at hcell
      obtain ⟨n2, hn2⟩ : ∃ m, a ||| (x * 2 ^ (8 * k)) = m := ⟨_, rfl⟩
      have HR2 := hid (show num (xs.take (k + 1)) = n2 by
        rw [List.take_succ_eq_append_getElem kx, num_snoc, HR.out, hx, ← hn2, or_add a x (8 * k) hn]
        simp
        rw [Nat.min_eq_left (by omega), Nat.pow_mul, Nat.mul_comm])
      have l2 : n2 < 2 ^ (8 * (k + 1)) := by
        rw [← hn2, or_add a x (8 * k) hn, Nat.mul_add, Nat.pow_add]
        have : x * 2 ^ (8 * k) ≤ 255 * 2 ^ (8 * k) := Nat.mul_le_mul_right _ (by omega)
        omega
      have sq : x * 2 ^ (8 * k) < 18446744073709551616 := by
        have h1 : x * 2 ^ (8 * k) < 256 * 2 ^ (8 * k) := Nat.mul_lt_mul_of_pos_right x1 (Nat.pow_pos (by decide))
        have h2 : 256 * 2 ^ (8 * k) ≤ 256 * 2 ^ 56 := Nat.mul_le_mul_left _ (Nat.pow_le_pow_right (by decide) (by omega))
        omega
      have sn : a < 18446744073709551616 := Nat.lt_of_lt_of_le hn ((Nat.pow_le_pow_right (i := 8 * k) (j := 64) (by decide) (by omega) : 2 ^ (8 * k) ≤ 2 ^ 64))
      have e2 := bits_or_u64_nat a (x * 2 ^ (8 * k)) sn sq
      rw [hn2] at e2
      have E2 := hid e2
      have HC := hid hcell
      have HL2 := hid l2
      have : k = 0 ∨ k = 1 ∨ k = 2 ∨ k = 3 ∨ k = 4 ∨ k = 5 ∨ k = 6 ∨ k = 7 := by omega
      clear hx hcell e2 l2 hn hn2 sq hk hlt HR k8 kx
      rcases this with rfl | rfl | rfl | rfl | rfl | rfl | rfl | rfl
      · have e3 : bits .or .u64 (a : Int) ((x : Int)) = (n2 : Int) := by simpa using E2.out
        have hc : wr.cell? ⟨b, o, none⟩ = some (.int .u8 (x : Int)) := HC.out
        have i2 : (0 : Int) < (n : Int) := by have := HLT.out; omega
        have i3 : decide ((0 : Int) < (n : Int)) = true := decide_eq_true i2
        clear E2 HC
        go_wp2
        go_roundw
        case rel => exact ⟨1, n2, HLT.out, by go_num, rfl, HL2.out, HR2, trivial⟩
        case measure => have := HLT.out; simp [intOf]; omega
      · have e3 : bits .or .u64 (a : Int) ((x : Int) * 256) = (n2 : Int) := by simpa using E2.out
        have hc : wr.cell? ⟨b, o + 1, none⟩ = some (.int .u8 (x : Int)) := HC.out
        have i2 : (1 : Int) < (n : Int) := by have := HLT.out; omega
        have i3 : decide ((1 : Int) < (n : Int)) = true := decide_eq_true i2
        clear E2 HC
        go_wp2
        go_roundw
        case rel => exact ⟨2, n2, HLT.out, by go_num, rfl, HL2.out, HR2, trivial⟩
        case measure => have := HLT.out; simp [intOf]; omega
      · have e3 : bits .or .u64 (a : Int) ((x : Int) * 65536) = (n2 : Int) := by simpa using E2.out
        have hc : wr.cell? ⟨b, o + 2, none⟩ = some (.int .u8 (x : Int)) := HC.out
        have i2 : (2 : Int) < (n : Int) := by have := HLT.out; omega
        have i3 : decide ((2 : Int) < (n : Int)) = true := decide_eq_true i2
        clear E2 HC
        go_wp2
        go_roundw
        case rel => exact ⟨3, n2, HLT.out, by go_num, rfl, HL2.out, HR2, trivial⟩
        case measure => have := HLT.out; simp [intOf]; omega
      · have e3 : bits .or .u64 (a : Int) ((x : Int) * 16777216) = (n2 : Int) := by simpa using E2.out
        have hc : wr.cell? ⟨b, o + 3, none⟩ = some (.int .u8 (x : Int)) := HC.out
        have i2 : (3 : Int) < (n : Int) := by have := HLT.out; omega
        have i3 : decide ((3 : Int) < (n : Int)) = true := decide_eq_true i2
        clear E2 HC
        go_wp2
        go_roundw
        case rel => exact ⟨4, n2, HLT.out, by go_num, rfl, HL2.out, HR2, trivial⟩
        case measure => have := HLT.out; simp [intOf]; omega
      · have e3 : bits .or .u64 (a : Int) ((x : Int) * 4294967296) = (n2 : Int) := by simpa using E2.out
        have hc : wr.cell? ⟨b, o + 4, none⟩ = some (.int .u8 (x : Int)) := HC.out
        have i2 : (4 : Int) < (n : Int) := by have := HLT.out; omega
        have i3 : decide ((4 : Int) < (n : Int)) = true := decide_eq_true i2
        clear E2 HC
        go_wp2
        go_roundw
        case rel => exact ⟨5, n2, HLT.out, by go_num, rfl, HL2.out, HR2, trivial⟩
        case measure => have := HLT.out; simp [intOf]; omega
      · have e3 : bits .or .u64 (a : Int) ((x : Int) * 1099511627776) = (n2 : Int) := by simpa using E2.out
        have hc : wr.cell? ⟨b, o + 5, none⟩ = some (.int .u8 (x : Int)) := HC.out
        have i2 : (5 : Int) < (n : Int) := by have := HLT.out; omega
        have i3 : decide ((5 : Int) < (n : Int)) = true := decide_eq_true i2
        clear E2 HC
        go_wp2
        go_roundw
        case rel => exact ⟨6, n2, HLT.out, by go_num, rfl, HL2.out, HR2, trivial⟩
        case measure => have := HLT.out; simp [intOf]; omega
      · have e3 : bits .or .u64 (a : Int) ((x : Int) * 281474976710656) = (n2 : Int) := by simpa using E2.out
        have hc : wr.cell? ⟨b, o + 6, none⟩ = some (.int .u8 (x : Int)) := HC.out
        have i2 : (6 : Int) < (n : Int) := by have := HLT.out; omega
        have i3 : decide ((6 : Int) < (n : Int)) = true := decide_eq_true i2
        clear E2 HC
        go_wp2
        go_roundw
        case rel => exact ⟨7, n2, HLT.out, by go_num, rfl, HL2.out, HR2, trivial⟩
        case measure => have := HLT.out; simp [intOf]; omega
      · have e3 : bits .or .u64 (a : Int) ((x : Int) * 72057594037927936) = (n2 : Int) := by simpa using E2.out
        have hc : wr.cell? ⟨b, o + 7, none⟩ = some (.int .u8 (x : Int)) := HC.out
        have i2 : (7 : Int) < (n : Int) := by have := HLT.out; omega
        have i3 : decide ((7 : Int) < (n : Int)) = true := decide_eq_true i2
        clear E2 HC
        go_wp2
        go_roundw
        case rel => exact ⟨8, n2, HLT.out, by go_num, rfl, HL2.out, HR2, trivial⟩
        case measure => have := HLT.out; simp [intOf]; omega
    · obtain rfl : k = n := by omega
      have iF : decide ((k : Int) < (k : Int)) = false := by simp
      have HN := hid (show num xs = a by have := HR.out; rwa [List.take_of_length_le (by rw [HL.out]; exact Nat.le_refl _)] at this)
      clear hk hn HR
      go_wp2
      go_ret
      exact ⟨by rw [HN.out]; rfl, rfl⟩
theorem rget_any (xs ys : List Nat) (b o cap n at' k : Nat) (w : World) (hx : Oct ys) (hB : Bs w b o xs) (hl : xs.length = n) (hn : n < 9223372036854775000) (hy : (xs.drop at').take k = ys) (hk : ys.length = k) (hk8 : k ≤ 8) :
    Calls Tryd.prog 27 #[.slice (some ⟨b, o, none⟩) n cap, .int .i64 at', .int .i64 k] w fun e w' => e = .returned (.int .u64 (num ys : Nat)) ∧ w' = w := by
  have HFIT := hid (show k ≠ 0 → at' + k ≤ n from fun h => by
    have := congrArg List.length hy
    simp only [List.length_take, List.length_drop, hl, hk] at this
    omega)
  have HY := hid (show ∀ j, j < k → xs[at' + j]? = ys[j]? from fun j hj => by
    rw [← hy, List.getElem?_take, if_pos hj, List.getElem?_drop])
  have HB := hid hB
  have HX := hid hx
  have HL := hid hl
  have HN := hid hn
  have HK := hid hk
  have H8 := hid hk8
  have wk : IntKind.i64.wrap ((k : Int) - 1) = (k : Int) - 1 := by rw [IntKind.wrap_i64]; omega
  clear hB hx hl hn hy hk hk8
  go_enter Tryd.func27, Tryd.ntmps27
  go_upto_region 3 with fail
  go_loopw [7, 8] (fun nv iv wr => ∃ (j a : Nat), j ≤ k ∧ iv = .int .i64 ((j : Int) - 1) ∧ nv = .int .u64 a ∧ Hid (num (ys.drop j) = a) ∧ wr = w) (fun _ iv _ => (intOf iv + 1).toNat)
  case atStart => exact ⟨k, 0, Nat.le_refl _, by go_num, rfl, by rw [List.drop_of_length_le (by rw [HK.out]; exact Nat.le_refl _)]; rfl, rfl⟩
  case round =>
    obtain ⟨j, a, hj, rfl, rfl, HR, rfl⟩ := hrel
    by_cases hlt : 0 < j
    · obtain ⟨i, rfl⟩ : ∃ i, j = i + 1 := ⟨j - 1, by omega⟩
      have HJ := hid hj
      have HF := hid (HFIT.out (by omega))
      have hi : i < ys.length := by rw [HK.out]; omega
      have hm := HY.out i (by omega)
      have hxl : at' + i < xs.length := by rw [HL.out]; have := HF.out; omega
      rw [List.getElem?_eq_getElem hxl, List.getElem?_eq_getElem hi] at hm
      have hc := HB.out (at' + i) hxl
      rw [Option.some.inj hm] at hc
      obtain ⟨x, hx⟩ : ∃ x, ys[i] = x := ⟨_, rfl⟩
      have x1 : x < 256 := by rw [← hx]; exact HX.out _ (List.getElem_mem _)
      have HR2 := hid (show num (ys.drop i) = x + 256 * a from by rw [List.drop_eq_getElem_cons hi, num, HR.out, hx])
      have ha : a < 256 ^ 7 := by
        have := num_lt (ys.drop (i + 1)) (fun x hx' => HX.out x (List.mem_of_mem_drop hx'))
        rw [HR.out, List.length_drop, HK.out] at this
        exact Nat.lt_of_lt_of_le this (Nat.pow_le_pow_right (by decide) (by have := H8.out; omega))
      rw [hx] at hc
      have e0 : ((i + 1 : Nat) : Int) - 1 = (i : Int) := by omega
      have i0 : (0 : Int) ≤ (i : Int) := by omega
      have i1 : decide ((i : Int) ≥ 0) = true := decide_eq_true i0
      have w1 : IntKind.u64.wrap ((a : Int) * 256) = ((256 * a : Nat) : Int) := by rw [IntKind.wrap_u64]; omega
      have w2 : IntKind.u64.wrap ((x : Nat) : Int) = ((x : Nat) : Int) := by rw [IntKind.wrap_u64]; omega
      have w3 : IntKind.u64.wrap (((256 * a : Nat) : Int) + (x : Int)) = ((x + 256 * a : Nat) : Int) := by rw [IntKind.wrap_u64]; omega
      have w4 : IntKind.i64.wrap ((at' : Int) + (i : Int)) = ((at' + i : Nat) : Int) := by have := HF.out; have := HN.out; rw [IntKind.wrap_i64]; omega
      have w5 : IntKind.i64.wrap ((i : Int) - 1) = (i : Int) - 1 := by have := HF.out; have := HN.out; rw [IntKind.wrap_i64]; omega
      have b0 : (0 : Int) ≤ ((at' + i : Nat) : Int) := by omega
      have b1 : ((at' + i : Nat) : Int) < (n : Int) := by have := HF.out; omega
      obtain ⟨q, hq⟩ : ∃ q, at' + i = q := ⟨_, rfl⟩
      rw [hq] at w4 b0 b1 hc
      rw [e0]
      clear hm hx hi hxl hlt hj HR e0 hq
      go_upto_region 5 with fail
      go_wp2
      go_roundw
      case rel => exact ⟨i, x + 256 * a, by have := HJ.out; omega, by go_num, by go_num, HR2, trivial⟩
      case measure => simp [intOf]
    · obtain rfl : j = 0 := by omega
      have HN2 := hid (show num ys = a by have := HR.out; rwa [List.drop_zero] at this)
      clear hj hlt HR
      go_wp2
      go_ret
      exact ⟨by rw [HN2.out]; rfl, rfl⟩
end Go.Proofs.YtjpkodllemoniaaDoor.Wi
namespace Go.Proofs.YtjpkodllemoniaaDoor.Wi
open Go.RowKit Go.Deep Go.Proofs.YtjpkodllemoniaaDoor.Crc
open Go.Proofs.YtjpkodllemoniaaDoor.Cp (btr ball row_on row_cell row_lt row_frz Kp)
set_option linter.unusedVariables false
set_option linter.unusedSimpArgs false
set_option maxHeartbeats 8000000
set_option maxRecDepth 100000
attribute [local go_sem ↓] Go.wp_at_zero Go.wp_at_succ
theorem bs_take {w : World} {b o : Nat} {xs : List Nat} (h : Bs w b o xs) (n : Nat) : Bs w b o (xs.take n) := fun i hi => by
  rw [List.length_take] at hi
  rw [h i (by omega), List.getElem_take]
theorem bs_drop {w : World} {b o : Nat} {xs : List Nat} (h : Bs w b o xs) (n : Nat) : Bs w b (o + n) (xs.drop n) := fun i hi => by
  rw [List.length_drop] at hi
  rw [List.getElem_drop, Nat.add_assoc]
  exact h (n + i) (by omega)
theorem oct_take {xs : List Nat} (h : Oct xs) (n : Nat) : Oct (xs.take n) := fun x hx => h x (List.mem_of_mem_take hx)
theorem oct_drop {xs : List Nat} (h : Oct xs) (n : Nat) : Oct (xs.drop n) := fun x hx => h x (List.mem_of_mem_drop hx)
theorem take_any {B g o n c o' n' c' k : Nat} {xs : List Nat} (w : World) (hR : w.heap[B]? = some (.cells #[.slice (some ⟨g, o, none⟩) n c] 54 (0, 0))) (hB : Bs w g o xs) (hl : xs.length = n) (hx : Oct xs) (hk : k ≤ 8) (e1 : o + k = o') (e2 : n' + k = n) (e3 : c' + k = c) (hc : 0 < c') (hnc : n ≤ c) (hc2 : c < 9223372036854775808) :
    Calls Tryd.prog 40 #[.pointer (some ⟨B, 0, none⟩), .int .i64 k] w fun e w' => e = .returned (.int .u64 (num (xs.take k) : Nat)) ∧ w'.heap[B]? = some (.cells #[.slice (some ⟨g, o', none⟩) n' c'] 54 (0, 0)) ∧ Kp (fun b => b = B) w w' := by
  have NA := hid (number_any (xs.take k) g o c k w (by rw [List.length_take]; omega) hk (oct_take hx k) (bs_take hB k))
  have HR := hid hR
  have k0 := row_cell hR 0
  have f0 := row_frz hR 0
  simp only [List.getElem?_toArray, List.getElem?_cons_zero] at k0
  have i0 : (0 : Int) ≤ (k : Int) := by omega
  have i1 : (k : Int) ≤ (n : Int) := by omega
  have i2 : (k : Int) ≤ (c : Int) := by omega
  have d1 : n - k = n' := by omega
  have d2 : c - k = c' := by omega
  have E1 := hid e1
  have E2 := hid e2
  have E3 := hid e3
  have HC := hid hc
  clear hR hB hl hx hk
  go_enter Tryd.func40, Tryd.ntmps40
  go_upto_region 2 with (go_at_call 41; with_reducible refine NA.out.mono ?_; rintro e w1 ⟨rfl, rfl⟩)
  go_upto_region 3 with fail
  clear d1 d2 e1 e2 e3
  go_wp2
  go_ret
  exact ⟨rfl, Cp.set_row _ HR.out, Kp.set _ _ _ _⟩
end Go.Proofs.YtjpkodllemoniaaDoor.Wi
namespace Go.Proofs.YtjpkodllemoniaaDoor.Wi
open Go.RowKit Go.Deep Go.Proofs.YtjpkodllemoniaaDoor.Crc
open Go.Proofs.YtjpkodllemoniaaDoor.Cp (btr ball row_on row_cell row_lt row_frz row_ne set_row row6 Kp Or)
set_option linter.unusedVariables false
set_option linter.unusedSimpArgs false
set_option maxHeartbeats 8000000
set_option maxRecDepth 100000
attribute [local go_sem ↓] Go.wp_at_zero Go.wp_at_succ
/-- a reader, with what it has not read. -/
structure Rdr (w : World) (B g o n c : Nat) (xs : List Nat) : Prop where
  row : w.heap[B]? = some (.cells #[.slice (some ⟨g, o, none⟩) n c] 54 (0, 0))
  bs : Bs w g o xs
  len : xs.length = n
  oct : Oct xs
  cap : n < c
  lt : c < 9223372036854775808
  row5 : ∃ cur fz, w.heap[g]? = some (.cells cur 5 fz)
theorem bs_same {w w' : World} {g o : Nat} {xs : List Nat} (h : Bs w g o xs) (e : w'.heap[g]? = w.heap[g]?) : Bs w' g o xs := fun i hi => by
  have := h i hi
  unfold World.cell? at this ⊢
  simp only at this ⊢
  rw [e]
  exact this
theorem row_ne'' {w : World} {g k : Nat} {t u : TypeId} {c d : Array Value} {f f' : Nat × Nat} (h : w.heap[g]? = some (.cells c t f)) (k' : w.heap[k]? = some (.cells d u f')) (ne : t ≠ u) : g ≠ k := by
  rintro rfl
  rw [h] at k'
  injection k' with k'
  injection k' with _ k'
  exact ne k'
theorem Rdr.kp {w w' : World} {B g o n c : Nat} {xs : List Nat} (h : Rdr w B g o n c xs) {P : Nat → Prop} (k : Kp P w w') (hB : ¬ P B) (hg : ¬ P g) : Rdr w' B g o n c xs := by
  obtain ⟨cur, fz, hc⟩ := h.row5
  exact ⟨k.row h.row hB, bs_same h.bs (k.obj g (row_lt hc) hg), h.len, h.oct, h.cap, h.lt, cur, fz, k.row hc hg⟩
theorem Rdr.on {w w' : World} {B g o n c : Nat} {xs : List Nat} (h : Rdr w B g o n c xs) (k : Below w.heap.size w w') : Rdr w' B g o n c xs := h.kp (Kp.of (fun _ => False) k) id id
theorem rtake {B g o n c n' k : Nat} {xs : List Nat} (w : World) (h : Rdr w B g o n c xs) (hk : k ≤ 8) (hk0 : 0 < k) (e2 : n' + k = n) :
    Calls Tryd.prog 40 #[.pointer (some ⟨B, 0, none⟩), .int .i64 k] w fun e w' => e = .returned (.int .u64 (num (xs.take k) : Nat)) ∧ Rdr w' B g (o + k) n' (c - k) (xs.drop k) ∧ Kp (fun b => b = B) w w' := by
  have hc := h.cap
  have ht := h.lt
  refine (take_any (o' := o + k) (n' := n') (c' := c - k) w h.row h.bs h.len h.oct hk rfl e2 (by omega) (by omega) (by omega) ht).mono ?_
  rintro e w' ⟨he, hr, kp⟩
  obtain ⟨cur, fz, h5⟩ := h.row5
  have hne : ¬ g = B := row_ne'' h5 h.row (by decide)
  exact ⟨he, ⟨hr, bs_same (bs_drop h.bs k) (kp.obj g (row_lt h5) hne), by rw [List.length_drop, h.len]; omega, oct_drop h.oct k, by omega, by omega, cur, fz, kp.row h5 hne⟩, kp⟩
/-- a number of so many bytes, at a place. -/
def nat' (xs : List Nat) (o k : Nat) : Nat := num ((xs.drop o).take k)
theorem nat_lt {xs : List Nat} (h : Oct xs) (o k : Nat) : nat' xs o k < 256 ^ k := by
  have := num_lt ((xs.drop o).take k) (oct_take (oct_drop h o) k)
  refine Nat.lt_of_lt_of_le this (Nat.pow_le_pow_right (by decide) ?_)
  rw [List.length_take]; omega
theorem res3 (fn : Func) (p u v : Tmp) (h : fn.results = #[.cell p 27, .tmp u, .tmp v]) (tmps : Array Value) (w : World) (g : Nat) (cs : Array Value) (e f : Value)
    (hp : tmps.getD p undef = .pointer (some ⟨g, 0, none⟩)) (hu : tmps.getD u undef = e) (hv : tmps.getD v undef = f) (hg : w.heap[g]? = some (.cells cs 27 (0, 0))) (hi : (Tryd.prog.info? 27).map (·.size) = some cs.size) :
    (results fn tmps).run Tryd.prog w = .ok (.tuple #[.agg cs, e, f]) w := by
  have hp' : tmps[p]?.getD undef = .pointer (some ⟨g, 0, none⟩) := by simpa using hp
  have hu' : tmps[u]?.getD undef = e := by simpa using hu
  have hv' : tmps[v]?.getD undef = f := by simpa using hv
  simp [results, h, hp', hu', hv', asAddr, Sem.run_bind, Result.andThen, run_loadVar_row w g 27 27 cs (0, 0) _ hg Tryd.underlying27 rfl hi]
theorem infoR : (Tryd.prog.info? 46).map (·.size) = some 7 := by kernel_rfl
theorem infoB : (Tryd.prog.info? 27).map (·.size) = some 6 := by kernel_rfl
/-- an order's bytes read. -/
def rdo (xs : List Nat) : Or := ⟨nat' xs 0 8, nat' xs 8 4, nat' xs 12 1, nat' xs 13 4, nat' xs 17 4, nat' xs 21 4, nat' xs 25 4⟩
theorem rorder1_any {B g o n c n' : Nat} {xs : List Nat} (w : World) (h : Rdr w B g o n c xs) (e : n' + 29 = n) :
    Calls Tryd.prog 42 #[.pointer (some ⟨B, 0, none⟩)] w fun e w' => e = .returned (.agg (Cp.orow (rdo xs))) ∧ Rdr w' B g (o + 29) n' (c - 29) (xs.drop 29) ∧ Kp (fun b => b = B) w w' := by
  have T0 := hid (fun (U : World) (q d m m' : Nat) (e : m' + 8 = m) (hU : Rdr U B g q m d (xs.drop 0)) => show Calls Tryd.prog 40 #[.pointer (some ⟨B, 0, none⟩), .int .i64 8] U fun e w' => e = .returned (.int .u64 (nat' xs 0 8 : Nat)) ∧ Rdr w' B g (q + 8) m' (d - 8) (xs.drop 8) ∧ Kp (fun b => b = B) U w' from by
    have := rtake (k := 8) (n' := m') U hU (by decide) (by decide) e
    rw [List.drop_drop] at this
    exact this)
  have T1 := hid (fun (U : World) (q d m m' : Nat) (e : m' + 4 = m) (hU : Rdr U B g q m d (xs.drop 8)) => show Calls Tryd.prog 40 #[.pointer (some ⟨B, 0, none⟩), .int .i64 4] U fun e w' => e = .returned (.int .u64 (nat' xs 8 4 : Nat)) ∧ Rdr w' B g (q + 4) m' (d - 4) (xs.drop 12) ∧ Kp (fun b => b = B) U w' from by
    have := rtake (k := 4) (n' := m') U hU (by decide) (by decide) e
    rw [List.drop_drop] at this
    exact this)
  have T2 := hid (fun (U : World) (q d m m' : Nat) (e : m' + 1 = m) (hU : Rdr U B g q m d (xs.drop 12)) => show Calls Tryd.prog 40 #[.pointer (some ⟨B, 0, none⟩), .int .i64 1] U fun e w' => e = .returned (.int .u64 (nat' xs 12 1 : Nat)) ∧ Rdr w' B g (q + 1) m' (d - 1) (xs.drop 13) ∧ Kp (fun b => b = B) U w' from by
    have := rtake (k := 1) (n' := m') U hU (by decide) (by decide) e
    rw [List.drop_drop] at this
    exact this)
  have T3 := hid (fun (U : World) (q d m m' : Nat) (e : m' + 4 = m) (hU : Rdr U B g q m d (xs.drop 13)) => show Calls Tryd.prog 40 #[.pointer (some ⟨B, 0, none⟩), .int .i64 4] U fun e w' => e = .returned (.int .u64 (nat' xs 13 4 : Nat)) ∧ Rdr w' B g (q + 4) m' (d - 4) (xs.drop 17) ∧ Kp (fun b => b = B) U w' from by
    have := rtake (k := 4) (n' := m') U hU (by decide) (by decide) e
    rw [List.drop_drop] at this
    exact this)
  have T4 := hid (fun (U : World) (q d m m' : Nat) (e : m' + 4 = m) (hU : Rdr U B g q m d (xs.drop 17)) => show Calls Tryd.prog 40 #[.pointer (some ⟨B, 0, none⟩), .int .i64 4] U fun e w' => e = .returned (.int .u64 (nat' xs 17 4 : Nat)) ∧ Rdr w' B g (q + 4) m' (d - 4) (xs.drop 21) ∧ Kp (fun b => b = B) U w' from by
    have := rtake (k := 4) (n' := m') U hU (by decide) (by decide) e
    rw [List.drop_drop] at this
    exact this)
  have T5 := hid (fun (U : World) (q d m m' : Nat) (e : m' + 4 = m) (hU : Rdr U B g q m d (xs.drop 21)) => show Calls Tryd.prog 40 #[.pointer (some ⟨B, 0, none⟩), .int .i64 4] U fun e w' => e = .returned (.int .u64 (nat' xs 21 4 : Nat)) ∧ Rdr w' B g (q + 4) m' (d - 4) (xs.drop 25) ∧ Kp (fun b => b = B) U w' from by
    have := rtake (k := 4) (n' := m') U hU (by decide) (by decide) e
    rw [List.drop_drop] at this
    exact this)
  have T6 := hid (fun (U : World) (q d m m' : Nat) (e : m' + 4 = m) (hU : Rdr U B g q m d (xs.drop 25)) => show Calls Tryd.prog 40 #[.pointer (some ⟨B, 0, none⟩), .int .i64 4] U fun e w' => e = .returned (.int .u64 (nat' xs 25 4 : Nat)) ∧ Rdr w' B g (q + 4) m' (d - 4) (xs.drop 29) ∧ Kp (fun b => b = B) U w' from by
    have := rtake (k := 4) (n' := m') U hU (by decide) (by decide) e
    rw [List.drop_drop] at this
    exact this)
  have L0 := hid (nat_lt h.oct 0 8)
  obtain ⟨v0, hv0⟩ : ∃ v, nat' xs 0 8 = v := ⟨_, rfl⟩
  rw [hv0] at T0 L0
  have HV0 := hid hv0
  clear hv0
  have L1 := hid (nat_lt h.oct 8 4)
  obtain ⟨v1, hv1⟩ : ∃ v, nat' xs 8 4 = v := ⟨_, rfl⟩
  rw [hv1] at T1 L1
  have HV1 := hid hv1
  have c1 : IntKind.u32.wrap ((v1 : Nat) : Int) = ((v1 : Nat) : Int) := by have := L1.out; rw [IntKind.wrap_u32]; omega
  clear hv1
  have L2 := hid (nat_lt h.oct 12 1)
  obtain ⟨v2, hv2⟩ : ∃ v, nat' xs 12 1 = v := ⟨_, rfl⟩
  rw [hv2] at T2 L2
  have HV2 := hid hv2
  have c2 : IntKind.i64.wrap ((v2 : Nat) : Int) = ((v2 : Nat) : Int) := by have := L2.out; rw [IntKind.wrap_i64]; omega
  clear hv2
  have L3 := hid (nat_lt h.oct 13 4)
  obtain ⟨v3, hv3⟩ : ∃ v, nat' xs 13 4 = v := ⟨_, rfl⟩
  rw [hv3] at T3 L3
  have HV3 := hid hv3
  have c3 : IntKind.i64.wrap ((v3 : Nat) : Int) = ((v3 : Nat) : Int) := by have := L3.out; rw [IntKind.wrap_i64]; omega
  clear hv3
  have L4 := hid (nat_lt h.oct 17 4)
  obtain ⟨v4, hv4⟩ : ∃ v, nat' xs 17 4 = v := ⟨_, rfl⟩
  rw [hv4] at T4 L4
  have HV4 := hid hv4
  clear hv4
  have L5 := hid (nat_lt h.oct 21 4)
  obtain ⟨v5, hv5⟩ : ∃ v, nat' xs 21 4 = v := ⟨_, rfl⟩
  rw [hv5] at T5 L5
  have HV5 := hid hv5
  clear hv5
  have L6 := hid (nat_lt h.oct 25 4)
  obtain ⟨v6, hv6⟩ : ∃ v, nat' xs 25 4 = v := ⟨_, rfl⟩
  rw [hv6] at T6 L6
  have HV6 := hid hv6
  clear hv6
  have RD0 := hid (show Rdr w B g o n c (xs.drop 0) from by rw [List.drop_zero]; exact h)
  obtain ⟨W1, hW1⟩ : ∃ U, w.alloc (.cells #[.int .u64 0, .int .u32 0, .int .i64 0, .int .i64 0, .int .u64 0, .int .u64 0, .int .u64 0] 46) = U := ⟨_, rfl⟩
  obtain ⟨R1, hR1⟩ : ∃ R, w.heap.size = R := ⟨_, rfl⟩
  obtain ⟨W2, hW2⟩ : ∃ U, W1.alloc (.cells #[.int .u64 0, .int .u32 0, .int .i64 0, .int .i64 0, .int .u64 0, .int .u64 0, .int .u64 0] 46) = U := ⟨_, rfl⟩
  obtain ⟨R2, hR2⟩ : ∃ R, W1.heap.size = R := ⟨_, rfl⟩
  have hs1 : W1.heap.size = w.heap.size + 1 := by rw [← hW1]; simp
  have BA := hid (show Below w.heap.size w W2 from by rw [← hW2, ← hW1]; exact btr (ball _ _) (ball _ _))
  have Q1 := hid (show W2.heap[R1]? = some (.cells #[.int .u64 0, .int .u32 0, .int .i64 0, .int .i64 0, .int .u64 0, .int .u64 0, .int .u64 0] 46 (0, 0)) from by rw [← hW2]; exact row_on (by rw [← hW1, ← hR1]; exact World.alloc_heap_new _ _) (ball _ _))
  have Q2 := hid (show W2.heap[R2]? = some (.cells #[.int .u64 0, .int .u32 0, .int .i64 0, .int .i64 0, .int .u64 0, .int .u64 0, .int .u64 0] 46 (0, 0)) from by rw [← hW2, ← hR2]; exact World.alloc_heap_new _ _)
  have RB := hid (show ¬ R1 = B ∧ ¬ R2 = B ∧ R2 ≠ R1 from by have := row_lt h.row; refine ⟨?_, ?_, ?_⟩ <;> omega)
  have RG := hid (show ¬ R1 = g ∧ ¬ R2 = g from by obtain ⟨cur, fz, h5⟩ := h.row5; have := row_lt h5; refine ⟨?_, ?_⟩ <;> omega)
  have RS := hid (show w.heap.size ≤ R1 ∧ w.heap.size ≤ R2 from by refine ⟨?_, ?_⟩ <;> omega)
  have D0 := hid (RD0.out.on BA.out)
  have K0 := hid (Kp.of (fun b => b = B) BA.out)
  have HE := hid e
  clear h e RD0 hs1
  go_enter Tryd.func42, Tryd.ntmps42
  go_upto_region 2 with fail
  (try rw [hW1, hR1] )
  (try rw [hW2, hR2] )
  clear hW1 hR1 hW2 hR2 BA
  obtain ⟨m0, hm0⟩ : ∃ z, n' + 21 = z := ⟨_, rfl⟩
  have hM0 := hid (show m0 + 8 = n from by have := HE.out; omega)
  have HM0 := hid hm0
  clear hm0
  have CT := hid (T0.out _ _ _ _ m0 hM0.out D0.out)
  go_upto_region 3 with (go_at_call 40; with_reducible refine CT.out.mono ?_; rintro e V0 ⟨rfl, h1, h2⟩; have E0 := hid h1; have N0 := hid h2; clear h1 h2; obtain ⟨y0, y1, y2, y3, y4, y5, y6⟩ := row7 (N0.out.row Q2.out RB.out.2.1); have z1 := row_frz (N0.out.row Q2.out RB.out.2.1) 0)
  obtain ⟨U0, hU0⟩ : ∃ U, V0.setCell ⟨R2, 0, none⟩ (.int .u64 ((v0 : Nat) : Int)) = U := ⟨_, rfl⟩
  have S0 := hid (show Kp (fun b => b = R2) V0 U0 from by rw [← hU0]; exact Kp.set _ _ _ _)
  have Q2b := hid (show U0.heap[R2]? = some (.cells #[.int .u64 ((v0 : Nat) : Int), .int .u32 0, .int .i64 0, .int .i64 0, .int .u64 0, .int .u64 0, .int .u64 0] 46 (0, 0)) from by rw [← hU0]; exact set_row _ (N0.out.row Q2.out RB.out.2.1))
  have Q1b := hid (S0.out.row (N0.out.row Q1.out RB.out.1) (fun e => RB.out.2.2 e.symm))
  have D1 := hid (E0.out.kp S0.out (fun e => RB.out.2.1 e.symm) (fun e => RG.out.2 e.symm))
  have K1 := hid (show Kp (fun b => b = B) w U0 from (K0.out.trans N0.out (fun _ _ h => h)).trans ((S0.out).mono (fun _ _ h => h)) (fun q hq e => by exfalso; have := RS.out.2; have e' : q = R2 := e; omega))
  (try rw [hU0])
  clear hU0
  clear y0 y1 y2 y3 y4 y5 y6 z1 CT Q1 Q2 E0 N0 S0 D0 K0
  have Q1 := hid Q1b.out
  have Q2 := hid Q2b.out
  clear Q1b Q2b
  obtain ⟨m1, hm1⟩ : ∃ z, n' + 17 = z := ⟨_, rfl⟩
  have hM1 := hid (show m1 + 4 = m0 from by have := HM0.out; omega)
  have HM1 := hid hm1
  clear hm1
  have CT := hid (T1.out _ _ _ _ m1 hM1.out D1.out)
  go_upto_region 4 with (go_at_call 40; with_reducible refine CT.out.mono ?_; rintro e V1 ⟨rfl, h1, h2⟩; have E1 := hid h1; have N1 := hid h2; clear h1 h2; obtain ⟨y0, y1, y2, y3, y4, y5, y6⟩ := row7 (N1.out.row Q2.out RB.out.2.1); have z1 := row_frz (N1.out.row Q2.out RB.out.2.1) 1)
  obtain ⟨U1, hU1⟩ : ∃ U, V1.setCell ⟨R2, 1, none⟩ (.int .u32 ((v1 : Nat) : Int)) = U := ⟨_, rfl⟩
  have S1 := hid (show Kp (fun b => b = R2) V1 U1 from by rw [← hU1]; exact Kp.set _ _ _ _)
  have Q2b := hid (show U1.heap[R2]? = some (.cells #[.int .u64 ((v0 : Nat) : Int), .int .u32 ((v1 : Nat) : Int), .int .i64 0, .int .i64 0, .int .u64 0, .int .u64 0, .int .u64 0] 46 (0, 0)) from by rw [← hU1]; exact set_row _ (N1.out.row Q2.out RB.out.2.1))
  have Q1b := hid (S1.out.row (N1.out.row Q1.out RB.out.1) (fun e => RB.out.2.2 e.symm))
  have D2 := hid (E1.out.kp S1.out (fun e => RB.out.2.1 e.symm) (fun e => RG.out.2 e.symm))
  have K2 := hid (show Kp (fun b => b = B) w U1 from (K1.out.trans N1.out (fun _ _ h => h)).trans ((S1.out).mono (fun _ _ h => h)) (fun q hq e => by exfalso; have := RS.out.2; have e' : q = R2 := e; omega))
  (try rw [hU1])
  clear hU1
  clear y0 y1 y2 y3 y4 y5 y6 z1 CT Q1 Q2 E1 N1 S1 D1 K1
  have Q1 := hid Q1b.out
  have Q2 := hid Q2b.out
  clear Q1b Q2b
  obtain ⟨m2, hm2⟩ : ∃ z, n' + 16 = z := ⟨_, rfl⟩
  have hM2 := hid (show m2 + 1 = m1 from by have := HM1.out; omega)
  have HM2 := hid hm2
  clear hm2
  have CT := hid (T2.out _ _ _ _ m2 hM2.out D2.out)
  go_upto_region 5 with (go_at_call 40; with_reducible refine CT.out.mono ?_; rintro e V2 ⟨rfl, h1, h2⟩; have E2 := hid h1; have N2 := hid h2; clear h1 h2; obtain ⟨y0, y1, y2, y3, y4, y5, y6⟩ := row7 (N2.out.row Q2.out RB.out.2.1); have z1 := row_frz (N2.out.row Q2.out RB.out.2.1) 2)
  obtain ⟨U2, hU2⟩ : ∃ U, V2.setCell ⟨R2, 2, none⟩ (.int .i64 ((v2 : Nat) : Int)) = U := ⟨_, rfl⟩
  have S2 := hid (show Kp (fun b => b = R2) V2 U2 from by rw [← hU2]; exact Kp.set _ _ _ _)
  have Q2b := hid (show U2.heap[R2]? = some (.cells #[.int .u64 ((v0 : Nat) : Int), .int .u32 ((v1 : Nat) : Int), .int .i64 ((v2 : Nat) : Int), .int .i64 0, .int .u64 0, .int .u64 0, .int .u64 0] 46 (0, 0)) from by rw [← hU2]; exact set_row _ (N2.out.row Q2.out RB.out.2.1))
  have Q1b := hid (S2.out.row (N2.out.row Q1.out RB.out.1) (fun e => RB.out.2.2 e.symm))
  have D3 := hid (E2.out.kp S2.out (fun e => RB.out.2.1 e.symm) (fun e => RG.out.2 e.symm))
  have K3 := hid (show Kp (fun b => b = B) w U2 from (K2.out.trans N2.out (fun _ _ h => h)).trans ((S2.out).mono (fun _ _ h => h)) (fun q hq e => by exfalso; have := RS.out.2; have e' : q = R2 := e; omega))
  (try rw [hU2])
  clear hU2
  clear y0 y1 y2 y3 y4 y5 y6 z1 CT Q1 Q2 E2 N2 S2 D2 K2
  have Q1 := hid Q1b.out
  have Q2 := hid Q2b.out
  clear Q1b Q2b
  obtain ⟨m3, hm3⟩ : ∃ z, n' + 12 = z := ⟨_, rfl⟩
  have hM3 := hid (show m3 + 4 = m2 from by have := HM2.out; omega)
  have HM3 := hid hm3
  clear hm3
  have CT := hid (T3.out _ _ _ _ m3 hM3.out D3.out)
  go_upto_region 6 with (go_at_call 40; with_reducible refine CT.out.mono ?_; rintro e V3 ⟨rfl, h1, h2⟩; have E3 := hid h1; have N3 := hid h2; clear h1 h2; obtain ⟨y0, y1, y2, y3, y4, y5, y6⟩ := row7 (N3.out.row Q2.out RB.out.2.1); have z1 := row_frz (N3.out.row Q2.out RB.out.2.1) 3)
  obtain ⟨U3, hU3⟩ : ∃ U, V3.setCell ⟨R2, 3, none⟩ (.int .i64 ((v3 : Nat) : Int)) = U := ⟨_, rfl⟩
  have S3 := hid (show Kp (fun b => b = R2) V3 U3 from by rw [← hU3]; exact Kp.set _ _ _ _)
  have Q2b := hid (show U3.heap[R2]? = some (.cells #[.int .u64 ((v0 : Nat) : Int), .int .u32 ((v1 : Nat) : Int), .int .i64 ((v2 : Nat) : Int), .int .i64 ((v3 : Nat) : Int), .int .u64 0, .int .u64 0, .int .u64 0] 46 (0, 0)) from by rw [← hU3]; exact set_row _ (N3.out.row Q2.out RB.out.2.1))
  have Q1b := hid (S3.out.row (N3.out.row Q1.out RB.out.1) (fun e => RB.out.2.2 e.symm))
  have D4 := hid (E3.out.kp S3.out (fun e => RB.out.2.1 e.symm) (fun e => RG.out.2 e.symm))
  have K4 := hid (show Kp (fun b => b = B) w U3 from (K3.out.trans N3.out (fun _ _ h => h)).trans ((S3.out).mono (fun _ _ h => h)) (fun q hq e => by exfalso; have := RS.out.2; have e' : q = R2 := e; omega))
  (try rw [hU3])
  clear hU3
  clear y0 y1 y2 y3 y4 y5 y6 z1 CT Q1 Q2 E3 N3 S3 D3 K3
  have Q1 := hid Q1b.out
  have Q2 := hid Q2b.out
  clear Q1b Q2b
  obtain ⟨m4, hm4⟩ : ∃ z, n' + 8 = z := ⟨_, rfl⟩
  have hM4 := hid (show m4 + 4 = m3 from by have := HM3.out; omega)
  have HM4 := hid hm4
  clear hm4
  have CT := hid (T4.out _ _ _ _ m4 hM4.out D4.out)
  go_upto_region 7 with (go_at_call 40; with_reducible refine CT.out.mono ?_; rintro e V4 ⟨rfl, h1, h2⟩; have E4 := hid h1; have N4 := hid h2; clear h1 h2; obtain ⟨y0, y1, y2, y3, y4, y5, y6⟩ := row7 (N4.out.row Q2.out RB.out.2.1); have z1 := row_frz (N4.out.row Q2.out RB.out.2.1) 4)
  obtain ⟨U4, hU4⟩ : ∃ U, V4.setCell ⟨R2, 4, none⟩ (.int .u64 ((v4 : Nat) : Int)) = U := ⟨_, rfl⟩
  have S4 := hid (show Kp (fun b => b = R2) V4 U4 from by rw [← hU4]; exact Kp.set _ _ _ _)
  have Q2b := hid (show U4.heap[R2]? = some (.cells #[.int .u64 ((v0 : Nat) : Int), .int .u32 ((v1 : Nat) : Int), .int .i64 ((v2 : Nat) : Int), .int .i64 ((v3 : Nat) : Int), .int .u64 ((v4 : Nat) : Int), .int .u64 0, .int .u64 0] 46 (0, 0)) from by rw [← hU4]; exact set_row _ (N4.out.row Q2.out RB.out.2.1))
  have Q1b := hid (S4.out.row (N4.out.row Q1.out RB.out.1) (fun e => RB.out.2.2 e.symm))
  have D5 := hid (E4.out.kp S4.out (fun e => RB.out.2.1 e.symm) (fun e => RG.out.2 e.symm))
  have K5 := hid (show Kp (fun b => b = B) w U4 from (K4.out.trans N4.out (fun _ _ h => h)).trans ((S4.out).mono (fun _ _ h => h)) (fun q hq e => by exfalso; have := RS.out.2; have e' : q = R2 := e; omega))
  (try rw [hU4])
  clear hU4
  clear y0 y1 y2 y3 y4 y5 y6 z1 CT Q1 Q2 E4 N4 S4 D4 K4
  have Q1 := hid Q1b.out
  have Q2 := hid Q2b.out
  clear Q1b Q2b
  obtain ⟨m5, hm5⟩ : ∃ z, n' + 4 = z := ⟨_, rfl⟩
  have hM5 := hid (show m5 + 4 = m4 from by have := HM4.out; omega)
  have HM5 := hid hm5
  clear hm5
  have CT := hid (T5.out _ _ _ _ m5 hM5.out D5.out)
  go_upto_region 8 with (go_at_call 40; with_reducible refine CT.out.mono ?_; rintro e V5 ⟨rfl, h1, h2⟩; have E5 := hid h1; have N5 := hid h2; clear h1 h2; obtain ⟨y0, y1, y2, y3, y4, y5, y6⟩ := row7 (N5.out.row Q2.out RB.out.2.1); have z1 := row_frz (N5.out.row Q2.out RB.out.2.1) 5)
  obtain ⟨U5, hU5⟩ : ∃ U, V5.setCell ⟨R2, 5, none⟩ (.int .u64 ((v5 : Nat) : Int)) = U := ⟨_, rfl⟩
  have S5 := hid (show Kp (fun b => b = R2) V5 U5 from by rw [← hU5]; exact Kp.set _ _ _ _)
  have Q2b := hid (show U5.heap[R2]? = some (.cells #[.int .u64 ((v0 : Nat) : Int), .int .u32 ((v1 : Nat) : Int), .int .i64 ((v2 : Nat) : Int), .int .i64 ((v3 : Nat) : Int), .int .u64 ((v4 : Nat) : Int), .int .u64 ((v5 : Nat) : Int), .int .u64 0] 46 (0, 0)) from by rw [← hU5]; exact set_row _ (N5.out.row Q2.out RB.out.2.1))
  have Q1b := hid (S5.out.row (N5.out.row Q1.out RB.out.1) (fun e => RB.out.2.2 e.symm))
  have D6 := hid (E5.out.kp S5.out (fun e => RB.out.2.1 e.symm) (fun e => RG.out.2 e.symm))
  have K6 := hid (show Kp (fun b => b = B) w U5 from (K5.out.trans N5.out (fun _ _ h => h)).trans ((S5.out).mono (fun _ _ h => h)) (fun q hq e => by exfalso; have := RS.out.2; have e' : q = R2 := e; omega))
  (try rw [hU5])
  clear hU5
  clear y0 y1 y2 y3 y4 y5 y6 z1 CT Q1 Q2 E5 N5 S5 D5 K5
  have Q1 := hid Q1b.out
  have Q2 := hid Q2b.out
  clear Q1b Q2b
  obtain ⟨m6, hm6⟩ : ∃ z, n' = z := ⟨_, rfl⟩
  have hM6 := hid (show m6 + 4 = m5 from by have := HM5.out; omega)
  have HM6 := hid hm6
  clear hm6
  have CT := hid (T6.out _ _ _ _ m6 hM6.out D6.out)
  go_upto_region 9 with (go_at_call 40; with_reducible refine CT.out.mono ?_; rintro e V6 ⟨rfl, h1, h2⟩; have E6 := hid h1; have N6 := hid h2; clear h1 h2; obtain ⟨y0, y1, y2, y3, y4, y5, y6⟩ := row7 (N6.out.row Q2.out RB.out.2.1); have z1 := row_frz (N6.out.row Q2.out RB.out.2.1) 6)
  obtain ⟨U6, hU6⟩ : ∃ U, V6.setCell ⟨R2, 6, none⟩ (.int .u64 ((v6 : Nat) : Int)) = U := ⟨_, rfl⟩
  have S6 := hid (show Kp (fun b => b = R2) V6 U6 from by rw [← hU6]; exact Kp.set _ _ _ _)
  have Q2b := hid (show U6.heap[R2]? = some (.cells #[.int .u64 ((v0 : Nat) : Int), .int .u32 ((v1 : Nat) : Int), .int .i64 ((v2 : Nat) : Int), .int .i64 ((v3 : Nat) : Int), .int .u64 ((v4 : Nat) : Int), .int .u64 ((v5 : Nat) : Int), .int .u64 ((v6 : Nat) : Int)] 46 (0, 0)) from by rw [← hU6]; exact set_row _ (N6.out.row Q2.out RB.out.2.1))
  have Q1b := hid (S6.out.row (N6.out.row Q1.out RB.out.1) (fun e => RB.out.2.2 e.symm))
  have D7 := hid (E6.out.kp S6.out (fun e => RB.out.2.1 e.symm) (fun e => RG.out.2 e.symm))
  have K7 := hid (show Kp (fun b => b = B) w U6 from (K6.out.trans N6.out (fun _ _ h => h)).trans ((S6.out).mono (fun _ _ h => h)) (fun q hq e => by exfalso; have := RS.out.2; have e' : q = R2 := e; omega))
  (try rw [hU6])
  clear hU6
  clear y0 y1 y2 y3 y4 y5 y6 z1 CT Q1 Q2 E6 N6 S6 D6 K6
  have Q1 := hid Q1b.out
  have Q2 := hid Q2b.out
  clear Q1b Q2b
  obtain ⟨y0, y1, y2, y3, y4, y5, y6⟩ := row7 Q2.out
  obtain ⟨x0, x1, x2, x3, x4, x5, x6⟩ := row7 Q1.out
  have g0 := row_frz Q1.out 0
  have g1 := row_frz Q1.out 1
  have g2 := row_frz Q1.out 2
  have g3 := row_frz Q1.out 3
  have g4 := row_frz Q1.out 4
  have g5 := row_frz Q1.out 5
  have g6 := row_frz Q1.out 6
  obtain ⟨Y, hY⟩ : ∃ Y, (((((((U6).setCell ⟨R1, 0, none⟩ (.int .u64 ((v0 : Nat) : Int))).setCell ⟨R1, 1, none⟩ (.int .u32 ((v1 : Nat) : Int))).setCell ⟨R1, 2, none⟩ (.int .i64 ((v2 : Nat) : Int))).setCell ⟨R1, 3, none⟩ (.int .i64 ((v3 : Nat) : Int))).setCell ⟨R1, 4, none⟩ (.int .u64 ((v4 : Nat) : Int))).setCell ⟨R1, 5, none⟩ (.int .u64 ((v5 : Nat) : Int))).setCell ⟨R1, 6, none⟩ (.int .u64 ((v6 : Nat) : Int)) = Y := ⟨_, rfl⟩
  have KY := hid (show Kp (fun b => b = R1) U6 Y from by rw [← hY]; exact ((((((Kp.set (U6) R1 0 (.int .u64 ((v0 : Nat) : Int))).trans (Kp.set ((U6).setCell ⟨R1, 0, none⟩ (.int .u64 ((v0 : Nat) : Int))) R1 1 (.int .u32 ((v1 : Nat) : Int))) (fun _ _ h => h)).trans (Kp.set (((U6).setCell ⟨R1, 0, none⟩ (.int .u64 ((v0 : Nat) : Int))).setCell ⟨R1, 1, none⟩ (.int .u32 ((v1 : Nat) : Int))) R1 2 (.int .i64 ((v2 : Nat) : Int))) (fun _ _ h => h)).trans (Kp.set ((((U6).setCell ⟨R1, 0, none⟩ (.int .u64 ((v0 : Nat) : Int))).setCell ⟨R1, 1, none⟩ (.int .u32 ((v1 : Nat) : Int))).setCell ⟨R1, 2, none⟩ (.int .i64 ((v2 : Nat) : Int))) R1 3 (.int .i64 ((v3 : Nat) : Int))) (fun _ _ h => h)).trans (Kp.set (((((U6).setCell ⟨R1, 0, none⟩ (.int .u64 ((v0 : Nat) : Int))).setCell ⟨R1, 1, none⟩ (.int .u32 ((v1 : Nat) : Int))).setCell ⟨R1, 2, none⟩ (.int .i64 ((v2 : Nat) : Int))).setCell ⟨R1, 3, none⟩ (.int .i64 ((v3 : Nat) : Int))) R1 4 (.int .u64 ((v4 : Nat) : Int))) (fun _ _ h => h)).trans (Kp.set ((((((U6).setCell ⟨R1, 0, none⟩ (.int .u64 ((v0 : Nat) : Int))).setCell ⟨R1, 1, none⟩ (.int .u32 ((v1 : Nat) : Int))).setCell ⟨R1, 2, none⟩ (.int .i64 ((v2 : Nat) : Int))).setCell ⟨R1, 3, none⟩ (.int .i64 ((v3 : Nat) : Int))).setCell ⟨R1, 4, none⟩ (.int .u64 ((v4 : Nat) : Int))) R1 5 (.int .u64 ((v5 : Nat) : Int))) (fun _ _ h => h)).trans (Kp.set (((((((U6).setCell ⟨R1, 0, none⟩ (.int .u64 ((v0 : Nat) : Int))).setCell ⟨R1, 1, none⟩ (.int .u32 ((v1 : Nat) : Int))).setCell ⟨R1, 2, none⟩ (.int .i64 ((v2 : Nat) : Int))).setCell ⟨R1, 3, none⟩ (.int .i64 ((v3 : Nat) : Int))).setCell ⟨R1, 4, none⟩ (.int .u64 ((v4 : Nat) : Int))).setCell ⟨R1, 5, none⟩ (.int .u64 ((v5 : Nat) : Int))) R1 6 (.int .u64 ((v6 : Nat) : Int))) (fun _ _ h => h))
  have QY := hid (show Y.heap[R1]? = some (.cells #[.int .u64 ((v0 : Nat) : Int), .int .u32 ((v1 : Nat) : Int), .int .i64 ((v2 : Nat) : Int), .int .i64 ((v3 : Nat) : Int), .int .u64 ((v4 : Nat) : Int), .int .u64 ((v5 : Nat) : Int), .int .u64 ((v6 : Nat) : Int)] 46 (0, 0)) from by rw [← hY]; exact set_row (.int .u64 ((v6 : Nat) : Int)) (set_row (.int .u64 ((v5 : Nat) : Int)) (set_row (.int .u64 ((v4 : Nat) : Int)) (set_row (.int .i64 ((v3 : Nat) : Int)) (set_row (.int .i64 ((v2 : Nat) : Int)) (set_row (.int .u32 ((v1 : Nat) : Int)) (set_row (.int .u64 ((v0 : Nat) : Int)) (Q1.out))))))))
  go_wp2
  (try rw [hY])
  exact bodyPost_ret (results_cell_row Tryd.results42 _ _ R1 46 #[.int .u64 ((v0 : Nat) : Int), .int .u32 ((v1 : Nat) : Int), .int .i64 ((v2 : Nat) : Int), .int .i64 ((v3 : Nat) : Int), .int .u64 ((v4 : Nat) : Int), .int .u64 ((v5 : Nat) : Int), .int .u64 ((v6 : Nat) : Int)] (0, 0) _ (by rfl) QY.out Tryd.underlying46 rfl infoR) rfl ⟨by unfold rdo; rw [HV0.out, HV1.out, HV2.out, HV3.out, HV4.out, HV5.out, HV6.out]; rfl, by rw [show o + 29 = o + 8 + 4 + 1 + 4 + 4 + 4 + 4 from by omega, show c - 29 = c - 8 - 4 - 1 - 4 - 4 - 4 - 4 from by omega, HM6.out]; exact D7.out.kp KY.out (fun e => RB.out.1 e.symm) (fun e => RG.out.1 e.symm), (K7.out.trans KY.out (fun q hq e => by exfalso; have := RS.out.1; have e' : q = R1 := e; omega))⟩
theorem rhead_any {B g o n c n' : Nat} {xs : List Nat} (w : World) (h : Rdr w B g o n c xs) (e : n' + 23 = n) :
    Calls Tryd.prog 24 #[.pointer (some ⟨B, 0, none⟩)] w fun e w' => e = .returned (.tuple #[.agg #[.int .i64 (nat' xs 0 2 : Nat), .int .i64 (nat' xs 2 1 : Nat), .slice none 0 0, .slice none 0 0, .int .u64 (nat' xs 3 8 : Nat), .int .u64 (nat' xs 11 8 : Nat)], .int .i64 (nat' xs 19 2 : Nat), .int .i64 (nat' xs 21 2 : Nat)]) ∧ Rdr w' B g (o + 23) n' (c - 23) (xs.drop 23) ∧ Kp (fun b => b = B) w w' := by
  have T0 := hid (fun (U : World) (q d m m' : Nat) (e : m' + 2 = m) (hU : Rdr U B g q m d (xs.drop 0)) => show Calls Tryd.prog 40 #[.pointer (some ⟨B, 0, none⟩), .int .i64 2] U fun e w' => e = .returned (.int .u64 (nat' xs 0 2 : Nat)) ∧ Rdr w' B g (q + 2) m' (d - 2) (xs.drop 2) ∧ Kp (fun b => b = B) U w' from by
    have := rtake (k := 2) (n' := m') U hU (by decide) (by decide) e
    rw [List.drop_drop] at this
    exact this)
  have T1 := hid (fun (U : World) (q d m m' : Nat) (e : m' + 1 = m) (hU : Rdr U B g q m d (xs.drop 2)) => show Calls Tryd.prog 40 #[.pointer (some ⟨B, 0, none⟩), .int .i64 1] U fun e w' => e = .returned (.int .u64 (nat' xs 2 1 : Nat)) ∧ Rdr w' B g (q + 1) m' (d - 1) (xs.drop 3) ∧ Kp (fun b => b = B) U w' from by
    have := rtake (k := 1) (n' := m') U hU (by decide) (by decide) e
    rw [List.drop_drop] at this
    exact this)
  have T2 := hid (fun (U : World) (q d m m' : Nat) (e : m' + 8 = m) (hU : Rdr U B g q m d (xs.drop 3)) => show Calls Tryd.prog 40 #[.pointer (some ⟨B, 0, none⟩), .int .i64 8] U fun e w' => e = .returned (.int .u64 (nat' xs 3 8 : Nat)) ∧ Rdr w' B g (q + 8) m' (d - 8) (xs.drop 11) ∧ Kp (fun b => b = B) U w' from by
    have := rtake (k := 8) (n' := m') U hU (by decide) (by decide) e
    rw [List.drop_drop] at this
    exact this)
  have T3 := hid (fun (U : World) (q d m m' : Nat) (e : m' + 8 = m) (hU : Rdr U B g q m d (xs.drop 11)) => show Calls Tryd.prog 40 #[.pointer (some ⟨B, 0, none⟩), .int .i64 8] U fun e w' => e = .returned (.int .u64 (nat' xs 11 8 : Nat)) ∧ Rdr w' B g (q + 8) m' (d - 8) (xs.drop 19) ∧ Kp (fun b => b = B) U w' from by
    have := rtake (k := 8) (n' := m') U hU (by decide) (by decide) e
    rw [List.drop_drop] at this
    exact this)
  have T4 := hid (fun (U : World) (q d m m' : Nat) (e : m' + 2 = m) (hU : Rdr U B g q m d (xs.drop 19)) => show Calls Tryd.prog 40 #[.pointer (some ⟨B, 0, none⟩), .int .i64 2] U fun e w' => e = .returned (.int .u64 (nat' xs 19 2 : Nat)) ∧ Rdr w' B g (q + 2) m' (d - 2) (xs.drop 21) ∧ Kp (fun b => b = B) U w' from by
    have := rtake (k := 2) (n' := m') U hU (by decide) (by decide) e
    rw [List.drop_drop] at this
    exact this)
  have T5 := hid (fun (U : World) (q d m m' : Nat) (e : m' + 2 = m) (hU : Rdr U B g q m d (xs.drop 21)) => show Calls Tryd.prog 40 #[.pointer (some ⟨B, 0, none⟩), .int .i64 2] U fun e w' => e = .returned (.int .u64 (nat' xs 21 2 : Nat)) ∧ Rdr w' B g (q + 2) m' (d - 2) (xs.drop 23) ∧ Kp (fun b => b = B) U w' from by
    have := rtake (k := 2) (n' := m') U hU (by decide) (by decide) e
    rw [List.drop_drop] at this
    exact this)
  have L0 := hid (nat_lt h.oct 0 2)
  obtain ⟨v0, hv0⟩ : ∃ v, nat' xs 0 2 = v := ⟨_, rfl⟩
  rw [hv0] at T0 L0
  have HV0 := hid hv0
  have c0 : IntKind.i64.wrap ((v0 : Nat) : Int) = ((v0 : Nat) : Int) := by have := L0.out; rw [IntKind.wrap_i64]; omega
  clear hv0
  have L1 := hid (nat_lt h.oct 2 1)
  obtain ⟨v1, hv1⟩ : ∃ v, nat' xs 2 1 = v := ⟨_, rfl⟩
  rw [hv1] at T1 L1
  have HV1 := hid hv1
  have c1 : IntKind.i64.wrap ((v1 : Nat) : Int) = ((v1 : Nat) : Int) := by have := L1.out; rw [IntKind.wrap_i64]; omega
  clear hv1
  have L2 := hid (nat_lt h.oct 3 8)
  obtain ⟨v2, hv2⟩ : ∃ v, nat' xs 3 8 = v := ⟨_, rfl⟩
  rw [hv2] at T2 L2
  have HV2 := hid hv2
  clear hv2
  have L3 := hid (nat_lt h.oct 11 8)
  obtain ⟨v3, hv3⟩ : ∃ v, nat' xs 11 8 = v := ⟨_, rfl⟩
  rw [hv3] at T3 L3
  have HV3 := hid hv3
  clear hv3
  have L4 := hid (nat_lt h.oct 19 2)
  obtain ⟨v4, hv4⟩ : ∃ v, nat' xs 19 2 = v := ⟨_, rfl⟩
  rw [hv4] at T4 L4
  have HV4 := hid hv4
  have c4 : IntKind.i64.wrap ((v4 : Nat) : Int) = ((v4 : Nat) : Int) := by have := L4.out; rw [IntKind.wrap_i64]; omega
  clear hv4
  have L5 := hid (nat_lt h.oct 21 2)
  obtain ⟨v5, hv5⟩ : ∃ v, nat' xs 21 2 = v := ⟨_, rfl⟩
  rw [hv5] at T5 L5
  have HV5 := hid hv5
  have c5 : IntKind.i64.wrap ((v5 : Nat) : Int) = ((v5 : Nat) : Int) := by have := L5.out; rw [IntKind.wrap_i64]; omega
  clear hv5
  have RD0 := hid (show Rdr w B g o n c (xs.drop 0) from by rw [List.drop_zero]; exact h)
  obtain ⟨W1, hW1⟩ : ∃ U, w.alloc (.cells #[.int .i64 0, .int .i64 0, .slice none 0 0, .slice none 0 0, .int .u64 0, .int .u64 0] 27) = U := ⟨_, rfl⟩
  obtain ⟨R1, hR1⟩ : ∃ R, w.heap.size = R := ⟨_, rfl⟩
  obtain ⟨W2, hW2⟩ : ∃ U, W1.alloc (.cells #[.int .i64 0, .int .i64 0, .slice none 0 0, .slice none 0 0, .int .u64 0, .int .u64 0] 27) = U := ⟨_, rfl⟩
  obtain ⟨R2, hR2⟩ : ∃ R, W1.heap.size = R := ⟨_, rfl⟩
  have hs1 : W1.heap.size = w.heap.size + 1 := by rw [← hW1]; simp
  have BA := hid (show Below w.heap.size w W2 from by rw [← hW2, ← hW1]; exact btr (ball _ _) (ball _ _))
  have Q1 := hid (show W2.heap[R1]? = some (.cells #[.int .i64 0, .int .i64 0, .slice none 0 0, .slice none 0 0, .int .u64 0, .int .u64 0] 27 (0, 0)) from by rw [← hW2]; exact row_on (by rw [← hW1, ← hR1]; exact World.alloc_heap_new _ _) (ball _ _))
  have Q2 := hid (show W2.heap[R2]? = some (.cells #[.int .i64 0, .int .i64 0, .slice none 0 0, .slice none 0 0, .int .u64 0, .int .u64 0] 27 (0, 0)) from by rw [← hW2, ← hR2]; exact World.alloc_heap_new _ _)
  have RB := hid (show ¬ R1 = B ∧ ¬ R2 = B ∧ R2 ≠ R1 from by have := row_lt h.row; refine ⟨?_, ?_, ?_⟩ <;> omega)
  have RG := hid (show ¬ R1 = g ∧ ¬ R2 = g from by obtain ⟨cur, fz, h5⟩ := h.row5; have := row_lt h5; refine ⟨?_, ?_⟩ <;> omega)
  have RS := hid (show w.heap.size ≤ R1 ∧ w.heap.size ≤ R2 from by refine ⟨?_, ?_⟩ <;> omega)
  have D0 := hid (RD0.out.on BA.out)
  have K0 := hid (Kp.of (fun b => b = B) BA.out)
  have HE := hid e
  clear h e RD0 hs1
  go_enter Tryd.func24, Tryd.ntmps24
  go_upto_region 2 with fail
  (try rw [hW1, hR1] )
  (try rw [hW2, hR2] )
  clear hW1 hR1 hW2 hR2 BA
  obtain ⟨m0, hm0⟩ : ∃ z, n' + 21 = z := ⟨_, rfl⟩
  have hM0 := hid (show m0 + 2 = n from by have := HE.out; omega)
  have HM0 := hid hm0
  clear hm0
  have CT := hid (T0.out _ _ _ _ m0 hM0.out D0.out)
  go_upto_region 3 with (go_at_call 40; with_reducible refine CT.out.mono ?_; rintro e V0 ⟨rfl, h1, h2⟩; have E0 := hid h1; have N0 := hid h2; clear h1 h2; obtain ⟨y0, y1, y2, y3, y4, y5⟩ := row6 (N0.out.row Q2.out RB.out.2.1); have z1 := row_frz (N0.out.row Q2.out RB.out.2.1) 0)
  obtain ⟨U0, hU0⟩ : ∃ U, V0.setCell ⟨R2, 0, none⟩ (.int .i64 ((v0 : Nat) : Int)) = U := ⟨_, rfl⟩
  have S0 := hid (show Kp (fun b => b = R2) V0 U0 from by rw [← hU0]; exact Kp.set _ _ _ _)
  have Q2b := hid (show U0.heap[R2]? = some (.cells #[.int .i64 ((v0 : Nat) : Int), .int .i64 0, .slice none 0 0, .slice none 0 0, .int .u64 0, .int .u64 0] 27 (0, 0)) from by rw [← hU0]; exact set_row _ (N0.out.row Q2.out RB.out.2.1))
  have Q1b := hid (S0.out.row (N0.out.row Q1.out RB.out.1) (fun e => RB.out.2.2 e.symm))
  have D1 := hid (E0.out.kp S0.out (fun e => RB.out.2.1 e.symm) (fun e => RG.out.2 e.symm))
  have K1 := hid (show Kp (fun b => b = B) w U0 from (K0.out.trans N0.out (fun _ _ h => h)).trans ((S0.out).mono (fun _ _ h => h)) (fun q hq e => by exfalso; have := RS.out.2; have e' : q = R2 := e; omega))
  (try rw [hU0])
  clear hU0
  clear y0 y1 y2 y3 y4 y5 z1 CT Q1 Q2 E0 N0 S0 D0 K0
  have Q1 := hid Q1b.out
  have Q2 := hid Q2b.out
  clear Q1b Q2b
  obtain ⟨m1, hm1⟩ : ∃ z, n' + 20 = z := ⟨_, rfl⟩
  have hM1 := hid (show m1 + 1 = m0 from by have := HM0.out; omega)
  have HM1 := hid hm1
  clear hm1
  have CT := hid (T1.out _ _ _ _ m1 hM1.out D1.out)
  go_upto_region 4 with (go_at_call 40; with_reducible refine CT.out.mono ?_; rintro e V1 ⟨rfl, h1, h2⟩; have E1 := hid h1; have N1 := hid h2; clear h1 h2; obtain ⟨y0, y1, y2, y3, y4, y5⟩ := row6 (N1.out.row Q2.out RB.out.2.1); have z1 := row_frz (N1.out.row Q2.out RB.out.2.1) 1)
  obtain ⟨U1, hU1⟩ : ∃ U, V1.setCell ⟨R2, 1, none⟩ (.int .i64 ((v1 : Nat) : Int)) = U := ⟨_, rfl⟩
  have S1 := hid (show Kp (fun b => b = R2) V1 U1 from by rw [← hU1]; exact Kp.set _ _ _ _)
  have Q2b := hid (show U1.heap[R2]? = some (.cells #[.int .i64 ((v0 : Nat) : Int), .int .i64 ((v1 : Nat) : Int), .slice none 0 0, .slice none 0 0, .int .u64 0, .int .u64 0] 27 (0, 0)) from by rw [← hU1]; exact set_row _ (N1.out.row Q2.out RB.out.2.1))
  have Q1b := hid (S1.out.row (N1.out.row Q1.out RB.out.1) (fun e => RB.out.2.2 e.symm))
  have D2 := hid (E1.out.kp S1.out (fun e => RB.out.2.1 e.symm) (fun e => RG.out.2 e.symm))
  have K2 := hid (show Kp (fun b => b = B) w U1 from (K1.out.trans N1.out (fun _ _ h => h)).trans ((S1.out).mono (fun _ _ h => h)) (fun q hq e => by exfalso; have := RS.out.2; have e' : q = R2 := e; omega))
  (try rw [hU1])
  clear hU1
  clear y0 y1 y2 y3 y4 y5 z1 CT Q1 Q2 E1 N1 S1 D1 K1
  have Q1 := hid Q1b.out
  have Q2 := hid Q2b.out
  clear Q1b Q2b
  obtain ⟨m2, hm2⟩ : ∃ z, n' + 12 = z := ⟨_, rfl⟩
  have hM2 := hid (show m2 + 8 = m1 from by have := HM1.out; omega)
  have HM2 := hid hm2
  clear hm2
  have CT := hid (T2.out _ _ _ _ m2 hM2.out D2.out)
  go_upto_region 5 with (go_at_call 40; with_reducible refine CT.out.mono ?_; rintro e V2 ⟨rfl, h1, h2⟩; have E2 := hid h1; have N2 := hid h2; clear h1 h2; obtain ⟨y0, y1, y2, y3, y4, y5⟩ := row6 (N2.out.row Q2.out RB.out.2.1); have z1 := row_frz (N2.out.row Q2.out RB.out.2.1) 4)
  obtain ⟨U2, hU2⟩ : ∃ U, V2.setCell ⟨R2, 4, none⟩ (.int .u64 ((v2 : Nat) : Int)) = U := ⟨_, rfl⟩
  have S2 := hid (show Kp (fun b => b = R2) V2 U2 from by rw [← hU2]; exact Kp.set _ _ _ _)
  have Q2b := hid (show U2.heap[R2]? = some (.cells #[.int .i64 ((v0 : Nat) : Int), .int .i64 ((v1 : Nat) : Int), .slice none 0 0, .slice none 0 0, .int .u64 ((v2 : Nat) : Int), .int .u64 0] 27 (0, 0)) from by rw [← hU2]; exact set_row _ (N2.out.row Q2.out RB.out.2.1))
  have Q1b := hid (S2.out.row (N2.out.row Q1.out RB.out.1) (fun e => RB.out.2.2 e.symm))
  have D3 := hid (E2.out.kp S2.out (fun e => RB.out.2.1 e.symm) (fun e => RG.out.2 e.symm))
  have K3 := hid (show Kp (fun b => b = B) w U2 from (K2.out.trans N2.out (fun _ _ h => h)).trans ((S2.out).mono (fun _ _ h => h)) (fun q hq e => by exfalso; have := RS.out.2; have e' : q = R2 := e; omega))
  (try rw [hU2])
  clear hU2
  clear y0 y1 y2 y3 y4 y5 z1 CT Q1 Q2 E2 N2 S2 D2 K2
  have Q1 := hid Q1b.out
  have Q2 := hid Q2b.out
  clear Q1b Q2b
  obtain ⟨m3, hm3⟩ : ∃ z, n' + 4 = z := ⟨_, rfl⟩
  have hM3 := hid (show m3 + 8 = m2 from by have := HM2.out; omega)
  have HM3 := hid hm3
  clear hm3
  have CT := hid (T3.out _ _ _ _ m3 hM3.out D3.out)
  go_upto_region 6 with (go_at_call 40; with_reducible refine CT.out.mono ?_; rintro e V3 ⟨rfl, h1, h2⟩; have E3 := hid h1; have N3 := hid h2; clear h1 h2; obtain ⟨y0, y1, y2, y3, y4, y5⟩ := row6 (N3.out.row Q2.out RB.out.2.1); have z1 := row_frz (N3.out.row Q2.out RB.out.2.1) 5)
  obtain ⟨U3, hU3⟩ : ∃ U, V3.setCell ⟨R2, 5, none⟩ (.int .u64 ((v3 : Nat) : Int)) = U := ⟨_, rfl⟩
  have S3 := hid (show Kp (fun b => b = R2) V3 U3 from by rw [← hU3]; exact Kp.set _ _ _ _)
  have Q2b := hid (show U3.heap[R2]? = some (.cells #[.int .i64 ((v0 : Nat) : Int), .int .i64 ((v1 : Nat) : Int), .slice none 0 0, .slice none 0 0, .int .u64 ((v2 : Nat) : Int), .int .u64 ((v3 : Nat) : Int)] 27 (0, 0)) from by rw [← hU3]; exact set_row _ (N3.out.row Q2.out RB.out.2.1))
  have Q1b := hid (S3.out.row (N3.out.row Q1.out RB.out.1) (fun e => RB.out.2.2 e.symm))
  have D4 := hid (E3.out.kp S3.out (fun e => RB.out.2.1 e.symm) (fun e => RG.out.2 e.symm))
  have K4 := hid (show Kp (fun b => b = B) w U3 from (K3.out.trans N3.out (fun _ _ h => h)).trans ((S3.out).mono (fun _ _ h => h)) (fun q hq e => by exfalso; have := RS.out.2; have e' : q = R2 := e; omega))
  (try rw [hU3])
  clear hU3
  clear y0 y1 y2 y3 y4 y5 z1 CT Q1 Q2 E3 N3 S3 D3 K3
  have Q1 := hid Q1b.out
  have Q2 := hid Q2b.out
  clear Q1b Q2b
  obtain ⟨m4, hm4⟩ : ∃ z, n' + 2 = z := ⟨_, rfl⟩
  have hM4 := hid (show m4 + 2 = m3 from by have := HM3.out; omega)
  have HM4 := hid hm4
  clear hm4
  have CT := hid (T4.out _ _ _ _ m4 hM4.out D4.out)
  go_upto_region 7 with (go_at_call 40; with_reducible refine CT.out.mono ?_; rintro e V4 ⟨rfl, h1, h2⟩; have E4 := hid h1; have N4 := hid h2; clear h1 h2)
  have Q2b := hid (N4.out.row Q2.out RB.out.2.1)
  have Q1b := hid (N4.out.row Q1.out RB.out.1)
  have D5 := hid E4.out
  have K5 := hid (K4.out.trans N4.out (fun _ _ h => h))
  clear CT Q1 Q2 E4 N4 D4 K4
  have Q1 := hid Q1b.out
  have Q2 := hid Q2b.out
  clear Q1b Q2b
  obtain ⟨m5, hm5⟩ : ∃ z, n' = z := ⟨_, rfl⟩
  have hM5 := hid (show m5 + 2 = m4 from by have := HM4.out; omega)
  have HM5 := hid hm5
  clear hm5
  have CT := hid (T5.out _ _ _ _ m5 hM5.out D5.out)
  go_upto_region 8 with (go_at_call 40; with_reducible refine CT.out.mono ?_; rintro e V5 ⟨rfl, h1, h2⟩; have E5 := hid h1; have N5 := hid h2; clear h1 h2)
  have Q2b := hid (N5.out.row Q2.out RB.out.2.1)
  have Q1b := hid (N5.out.row Q1.out RB.out.1)
  have D6 := hid E5.out
  have K6 := hid (K5.out.trans N5.out (fun _ _ h => h))
  clear CT Q1 Q2 E5 N5 D5 K5
  have Q1 := hid Q1b.out
  have Q2 := hid Q2b.out
  clear Q1b Q2b
  obtain ⟨y0, y1, y2, y3, y4, y5⟩ := row6 Q2.out
  obtain ⟨x0, x1, x2, x3, x4, x5⟩ := row6 Q1.out
  have g0 := row_frz Q1.out 0
  have g1 := row_frz Q1.out 1
  have g2 := row_frz Q1.out 2
  have g3 := row_frz Q1.out 3
  have g4 := row_frz Q1.out 4
  have g5 := row_frz Q1.out 5
  obtain ⟨Y, hY⟩ : ∃ Y, ((((((V5).setCell ⟨R1, 0, none⟩ (.int .i64 ((v0 : Nat) : Int))).setCell ⟨R1, 1, none⟩ (.int .i64 ((v1 : Nat) : Int))).setCell ⟨R1, 2, none⟩ (.slice none 0 0)).setCell ⟨R1, 3, none⟩ (.slice none 0 0)).setCell ⟨R1, 4, none⟩ (.int .u64 ((v2 : Nat) : Int))).setCell ⟨R1, 5, none⟩ (.int .u64 ((v3 : Nat) : Int)) = Y := ⟨_, rfl⟩
  have KY := hid (show Kp (fun b => b = R1) V5 Y from by rw [← hY]; exact (((((Kp.set (V5) R1 0 (.int .i64 ((v0 : Nat) : Int))).trans (Kp.set ((V5).setCell ⟨R1, 0, none⟩ (.int .i64 ((v0 : Nat) : Int))) R1 1 (.int .i64 ((v1 : Nat) : Int))) (fun _ _ h => h)).trans (Kp.set (((V5).setCell ⟨R1, 0, none⟩ (.int .i64 ((v0 : Nat) : Int))).setCell ⟨R1, 1, none⟩ (.int .i64 ((v1 : Nat) : Int))) R1 2 (.slice none 0 0)) (fun _ _ h => h)).trans (Kp.set ((((V5).setCell ⟨R1, 0, none⟩ (.int .i64 ((v0 : Nat) : Int))).setCell ⟨R1, 1, none⟩ (.int .i64 ((v1 : Nat) : Int))).setCell ⟨R1, 2, none⟩ (.slice none 0 0)) R1 3 (.slice none 0 0)) (fun _ _ h => h)).trans (Kp.set (((((V5).setCell ⟨R1, 0, none⟩ (.int .i64 ((v0 : Nat) : Int))).setCell ⟨R1, 1, none⟩ (.int .i64 ((v1 : Nat) : Int))).setCell ⟨R1, 2, none⟩ (.slice none 0 0)).setCell ⟨R1, 3, none⟩ (.slice none 0 0)) R1 4 (.int .u64 ((v2 : Nat) : Int))) (fun _ _ h => h)).trans (Kp.set ((((((V5).setCell ⟨R1, 0, none⟩ (.int .i64 ((v0 : Nat) : Int))).setCell ⟨R1, 1, none⟩ (.int .i64 ((v1 : Nat) : Int))).setCell ⟨R1, 2, none⟩ (.slice none 0 0)).setCell ⟨R1, 3, none⟩ (.slice none 0 0)).setCell ⟨R1, 4, none⟩ (.int .u64 ((v2 : Nat) : Int))) R1 5 (.int .u64 ((v3 : Nat) : Int))) (fun _ _ h => h))
  have QY := hid (show Y.heap[R1]? = some (.cells #[.int .i64 ((v0 : Nat) : Int), .int .i64 ((v1 : Nat) : Int), .slice none 0 0, .slice none 0 0, .int .u64 ((v2 : Nat) : Int), .int .u64 ((v3 : Nat) : Int)] 27 (0, 0)) from by rw [← hY]; exact set_row (.int .u64 ((v3 : Nat) : Int)) (set_row (.int .u64 ((v2 : Nat) : Int)) (set_row (.slice none 0 0) (set_row (.slice none 0 0) (set_row (.int .i64 ((v1 : Nat) : Int)) (set_row (.int .i64 ((v0 : Nat) : Int)) (Q1.out)))))))
  go_wp2
  (try rw [hY])
  exact bodyPost_ret (res3 _ 2 3 4 Tryd.results24 _ _ R1 #[.int .i64 ((v0 : Nat) : Int), .int .i64 ((v1 : Nat) : Int), .slice none 0 0, .slice none 0 0, .int .u64 ((v2 : Nat) : Int), .int .u64 ((v3 : Nat) : Int)] _ _ (by rfl) (by rfl) (by rfl) QY.out infoB) rfl ⟨by rw [HV0.out, HV1.out, HV2.out, HV3.out, HV4.out, HV5.out]; rfl, by rw [show o + 23 = o + 2 + 1 + 8 + 8 + 2 + 2 from by omega, show c - 23 = c - 2 - 1 - 8 - 8 - 2 - 2 from by omega, HM5.out]; exact D6.out.kp KY.out (fun e => RB.out.1 e.symm) (fun e => RG.out.1 e.symm), (K6.out.trans KY.out (fun q hq e => by exfalso; have := RS.out.1; have e' : q = R1 := e; omega))⟩
end Go.Proofs.YtjpkodllemoniaaDoor.Wi
