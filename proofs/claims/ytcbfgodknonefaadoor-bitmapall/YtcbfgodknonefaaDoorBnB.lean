/-
  The document's set: Above, Below, Count.
-/
import Derived.Test.YtcbfgodknonefaaDoorBnA
namespace Go.Proofs.YtcbfgodknonefaaDoor
open Go.RowKit Go.Deep Bt
set_option linter.unusedVariables false
set_option maxRecDepth 100000
set_option maxHeartbeats 1000000

theorem rank_ge {S : Nat → Bool} {u : Nat} (hu : S u = true) (hl : u < 262144) (n : Int) : n ≤ (u : Int) ↔ ahd S n ≤ cn S u := by
  have := rank_lt hu hl n
  constructor
  · intro h
    by_cases c : cn S u < ahd S n
    · have := this.2 c; omega
    · omega
  · intro h
    by_cases c : (u : Int) < n
    · have := this.1 c; omega
    · omega
theorem abv_rank {S : Nat → Bool} {n : Int} {u : Nat} (hu : S u = true) (hl : u < 262144) (hc : cn S u = ahd S n) : Abv S n (some u) := by
  refine ⟨hl, hu, (rank_ge hu hl n).2 (by omega), fun x h1 h2 => ?_⟩
  cases hx : S x with
  | false => rfl
  | true =>
    have := (rank_ge hx (by omega) n).1 h1
    have := cn_lt h2 hx
    omega
theorem abv_end {S : Nat → Bool} {n : Int} (h : ahd S n = len S) : Abv S n none := by
  intro x h1 h2
  cases hx : S x with
  | false => rfl
  | true =>
    have := (rank_ge hx h2 n).1 h1
    have := cn_lt (v := 262144) h2 hx
    unfold len at h
    omega
theorem dabove_any (p : Option Addr) (cap : Nat) (S : Nat → Bool) (l : List Int) (hS : Tl S l) (n : Int) (r : Option Nat) (hr : Abv S n r) (w : World) (hc : Lr w p l) :
    Calls Tryd.prog 33 #[.slice p l.length cap, .int .i64 n] w fun e w' => e = .returned (.tuple #[.int .i64 ((r.getD 0 : Nat) : Int), .bool r.isSome]) ∧ w' = w := by
  have HC := hid hc
  have la := ahd_len S n
  have ll := len_le S
  have HG := hid hS.get
  have HRK := hid (fun (u : Nat) (hu : S u = true) (hl : u < 262144) => rank_lt hu hl n)
  have el := hS.len
  have HR1 := hid (fun (u : Nat) (hu : S u = true) (hl : u < 262144) (e : cn S u = ahd S n) => hr.one (abv_rank hu hl e))
  have HR2 := hid (fun (e : ahd S n = len S) => hr.one (abv_end e))
  rw [← el] at HR2
  obtain ⟨L, hLL⟩ : ∃ L, l.length = L := ⟨_, rfl⟩
  obtain ⟨A, hA⟩ : ∃ A, ahd S n = A := ⟨_, rfl⟩
  rw [hA] at la HR1 HR2
  rw [hLL] at el HR2 ⊢
  have HA := hid hA
  have HLL := hid hLL
  have lA : A ≤ L := by omega
  have lL : (L : Int) < 9223372036854775807 := by omega
  obtain ⟨x, hx⟩ : ∃ x : Int, ((r.getD 0 : Nat) : Int) = x := ⟨_, rfl⟩
  obtain ⟨y, hy⟩ : ∃ y, r.isSome = y := ⟨_, rfl⟩
  rw [hx, hy]
  have HX := hid hx
  have HY := hid hy
  clear hc hA hLL ll el la hS hr hx hy
  go_enter Tryd.func33, Tryd.ntmps33
  go_wp2_with fail
  go_loopw [6] (fun iv wr => ∃ i : Nat, i ≤ A ∧ iv = .int .i64 i ∧ wr = w) (fun iv _ => A - (intOf iv).toNat)
  case atStart => exact ⟨0, Nat.zero_le _, rfl, rfl⟩
  case round =>
    obtain ⟨i, hi, rfl, rfl⟩ := hrel
    by_cases hl : i < L
    · have i0 : (0 : Int) ≤ (i : Int) := by omega
      have i1 : (i : Int) < (L : Int) := by omega
      obtain ⟨g, rfl, hcell⟩ := HC.out i (by rw [HLL.out]; exact hl)
      obtain ⟨u, e, hu, hu2, hu3⟩ := HG.out i (by rw [HLL.out]; exact hl)
      rw [e] at hcell
      have hk := HRK.out u hu hu2
      rw [hu3, HA.out] at hk
      by_cases hlt : i < A
      · have h1 : (u : Int) < n := hk.2 hlt
        clear hk e hu hu2 hu3
        obtain ⟨z, hz⟩ : ∃ z : Int, (u : Int) = z := ⟨_, rfl⟩
        rw [hz] at hcell h1
        have d1 : decide (n ≤ z) = false := decide_eq_false (by omega)
        clear hz h1
        go_wp2_with fail
        go_roundw
        case rel => exact ⟨i + 1, by omega, by go_num, trivial⟩
        case measure => simp [intOf]; omega
      · have h1 : n ≤ (u : Int) := by
          by_cases c : (u : Int) < n
          · exact absurd (hk.1 c) hlt
          · omega
        have er := HR1.out u hu hu2 (by omega)
        have ex : (u : Int) = x := by rw [← HX.out, er]; rfl
        have ey : y = true := by rw [← HY.out, er]; rfl
        rw [ex] at hcell h1
        subst ey
        clear hk e hu hu2 hu3 er ex HX HY hi hlt lA
        go_wp2_with fail
        go_ret2
        exact ⟨rfl, rfl⟩
    · have i1 : ¬ ((i : Int) < (L : Int)) := by omega
      have er := HR2.out (by omega)
      have ex : x = 0 := by rw [← HX.out, er]; rfl
      have ey : y = false := by rw [← HY.out, er]; rfl
      subst ex ey
      clear er HX HY
      go_wp2_with fail
      go_ret2
      exact ⟨rfl, rfl⟩
theorem blw_rank {S : Nat → Bool} {n : Int} {u : Nat} (hu : S u = true) (hl : u < 262144) (hc : cn S u + 1 = ahd S (n + 1)) : Blw S n (some u) := by
  refine ⟨hl, hu, by have := (rank_lt hu hl (n + 1)).2 (by omega); omega, fun x h1 h2 h3 => ?_⟩
  cases hx : S x with
  | false => rfl
  | true =>
    have := (rank_lt hx h3 (n + 1)).1 (by omega)
    have := cn_lt h1 hu
    omega
theorem blw_end {S : Nat → Bool} {n : Int} (h : ahd S (n + 1) = 0) : Blw S n none := by
  intro x h1 h2
  cases hx : S x with
  | false => rfl
  | true => have := (rank_lt hx h2 (n + 1)).1 (by omega); omega
theorem dbelow_any (p : Option Addr) (cap : Nat) (S : Nat → Bool) (l : List Int) (hS : Tl S l) (n : Int) (r : Option Nat) (hr : Blw S n r) (w : World) (hc : Lr w p l) :
    Calls Tryd.prog 34 #[.slice p l.length cap, .int .i64 n] w fun e w' => e = .returned (.tuple #[.int .i64 ((r.getD 0 : Nat) : Int), .bool r.isSome]) ∧ w' = w := by
  have HC := hid hc
  have la := ahd_len S (n + 1)
  have ll := len_le S
  have HG := hid hS.get
  have HRK := hid (fun (u : Nat) (hu : S u = true) (hl : u < 262144) => rank_lt hu hl (n + 1))
  have el := hS.len
  have HR1 := hid (fun (u : Nat) (hu : S u = true) (hl : u < 262144) (e : cn S u + 1 = ahd S (n + 1)) => hr.one (blw_rank hu hl e))
  have HR2 := hid (fun (e : ahd S (n + 1) = 0) => hr.one (blw_end e))
  obtain ⟨L, hLL⟩ : ∃ L, l.length = L := ⟨_, rfl⟩
  obtain ⟨A, hA⟩ : ∃ A, ahd S (n + 1) = A := ⟨_, rfl⟩
  rw [hA] at la HR1 HR2
  rw [hLL] at el ⊢
  have HA := hid hA
  have HLL := hid hLL
  have lA : A ≤ L := by omega
  have lL : (L : Int) < 9223372036854775807 := by omega
  obtain ⟨x, hx⟩ : ∃ x : Int, ((r.getD 0 : Nat) : Int) = x := ⟨_, rfl⟩
  obtain ⟨y, hy⟩ : ∃ y, r.isSome = y := ⟨_, rfl⟩
  rw [hx, hy]
  have HX := hid hx
  have HY := hid hy
  clear hc hA hLL ll el la hS hr hx hy
  go_enter Tryd.func34, Tryd.ntmps34
  go_wp2_with fail
  go_loopw [6] (fun iv wr => ∃ i : Nat, A ≤ i ∧ i ≤ L ∧ iv = .int .i64 ((i : Int) - 1) ∧ wr = w) (fun iv _ => (intOf iv + 1).toNat)
  case atStart => exact ⟨L, lA, Nat.le_refl _, rfl, rfl⟩
  case round =>
    obtain ⟨i, hi, hi2, rfl, rfl⟩ := hrel
    by_cases hl : i = 0
    · subst hl
      have er := HR2.out (by omega)
      have ex : x = 0 := by rw [← HX.out, er]; rfl
      have ey : y = false := by rw [← HY.out, er]; rfl
      subst ex ey
      clear er HX HY
      go_wp2_with fail
      go_ret2
      exact ⟨rfl, rfl⟩
    · obtain ⟨j, rfl⟩ : ∃ j, i = j + 1 := ⟨i - 1, by omega⟩
      have ej : ((j + 1 : Nat) : Int) - 1 = (j : Int) := by omega
      rw [ej]
      have i0 : (0 : Int) ≤ (j : Int) := by omega
      have i1 : (j : Int) < (L : Int) := by omega
      obtain ⟨g, rfl, hcell⟩ := HC.out j (by rw [HLL.out]; omega)
      obtain ⟨u, e, hu, hu2, hu3⟩ := HG.out j (by rw [HLL.out]; omega)
      rw [e] at hcell
      have hk := HRK.out u hu hu2
      rw [hu3, HA.out] at hk
      by_cases hlt : j < A
      · have h1 : (u : Int) ≤ n := by have := hk.2 hlt; omega
        have er := HR1.out u hu hu2 (by omega)
        have ex : (u : Int) = x := by rw [← HX.out, er]; rfl
        have ey : y = true := by rw [← HY.out, er]; rfl
        rw [ex] at hcell h1
        subst ey
        clear hk e hu hu2 hu3 er ex HX HY hi hlt lA
        go_wp2_with fail
        go_ret2
        exact ⟨rfl, rfl⟩
      · have h1 : n < (u : Int) := by
          by_cases c : (u : Int) < n + 1
          · exact absurd (hk.1 c) hlt
          · omega
        clear hk e hu hu2 hu3
        obtain ⟨z, hz⟩ : ∃ z : Int, (u : Int) = z := ⟨_, rfl⟩
        rw [hz] at hcell h1
        have d1 : decide (z ≤ n) = false := decide_eq_false (by omega)
        clear hz h1
        go_wp2_with fail
        go_roundw
        case rel => exact ⟨j, by omega, by omega, by go_num, trivial⟩
        case measure => simp [intOf]
theorem dcount_any (p : Option Addr) (cap : Nat) (S : Nat → Bool) (l : List Int) (hS : Tl S l) (a b : Int) (w : World) (hc : Lr w p l) :
    Calls Tryd.prog 35 #[.slice p l.length cap, .int .i64 a, .int .i64 b] w fun e w' => e = .returned (.int .i64 (cntI S a b)) ∧ w' = w := by
  have HC := hid hc
  have la := ahd_len S a
  have lb := ahd_len S b
  have ll := len_le S
  have HG := hid hS.get
  have HRA := hid (fun (u : Nat) (hu : S u = true) (hl : u < 262144) => rank_ge hu hl a)
  have HRB := hid (fun (u : Nat) (hu : S u = true) (hl : u < 262144) => rank_lt hu hl b)
  have el := hS.len
  have hE : cntI S a b = ((ahd S b - ahd S a : Nat) : Int) := by
    unfold cntI
    by_cases c : b ≤ a
    · rw [if_pos c]
      have := ahd_mono S c
      omega
    · rw [if_neg c]
      have := ahd_mono S (show a ≤ b by omega)
      omega
  rw [hE]
  obtain ⟨L, hLL⟩ : ∃ L, l.length = L := ⟨_, rfl⟩
  obtain ⟨A, hA⟩ : ∃ A, ahd S a = A := ⟨_, rfl⟩
  obtain ⟨B, hB⟩ : ∃ B, ahd S b = B := ⟨_, rfl⟩
  rw [hA] at la HRA ⊢
  rw [hB] at lb HRB ⊢
  rw [hLL] at el ⊢
  have HLL := hid hLL
  have lA : A ≤ L := by omega
  have lB : B ≤ L := by omega
  have lL : (L : Int) < 9223372036854775807 := by omega
  clear hc hA hB hLL ll el la lb hS hE
  go_enter Tryd.func35, Tryd.ntmps35
  go_wp2_with fail
  go_loopw [7, 8] (fun nv iv wr => ∃ i m : Nat, i ≤ L ∧ nv = .int .i64 m ∧ Hid (m = min i B - A) ∧ m ≤ L ∧ iv = .int .i64 i ∧ wr = w) (fun _ iv _ => L - (intOf iv).toNat)
  case atStart => exact ⟨0, 0, Nat.zero_le _, rfl, by show 0 = min 0 B - A; omega, by omega, rfl, rfl⟩
  case round =>
    obtain ⟨i, m, hi, rfl, HM, hm, rfl, rfl⟩ := hrel
    by_cases hl : i < L
    · have i0 : (0 : Int) ≤ (i : Int) := by omega
      have i1 : (i : Int) < (L : Int) := by omega
      obtain ⟨g, rfl, hcell⟩ := HC.out i (by rw [HLL.out]; exact hl)
      obtain ⟨u, e, hu, hu2, hu3⟩ := HG.out i (by rw [HLL.out]; exact hl)
      rw [e] at hcell
      have hka := HRA.out u hu hu2
      have hkb := HRB.out u hu hu2
      rw [hu3] at hka hkb
      clear e hu hu2 hu3
      by_cases ca : A ≤ i
      · have h1 : a ≤ (u : Int) := hka.2 ca
        by_cases cb : i < B
        · have h2 : (u : Int) < b := hkb.2 cb
          have HM2 := hid (show m + 1 = min (i + 1) B - A by have := HM.out; omega)
          have hm2 : m < L := by have := HM.out; omega
          clear hka hkb
          obtain ⟨z, hz⟩ : ∃ z : Int, (u : Int) = z := ⟨_, rfl⟩
          rw [hz] at hcell h1 h2
          clear hz
          go_wp2_with fail
          go_roundw
          case rel => exact ⟨i + 1, m + 1, by omega, by go_num, HM2, by omega, by go_num, trivial⟩
          case measure => simp [intOf]; omega
        · have h2 : b ≤ (u : Int) := by
            by_cases c : (u : Int) < b
            · exact absurd (hkb.1 c) cb
            · omega
          have HM2 := hid (show m = min (i + 1) B - A by have := HM.out; omega)
          clear hka hkb
          obtain ⟨z, hz⟩ : ∃ z : Int, (u : Int) = z := ⟨_, rfl⟩
          rw [hz] at hcell h1 h2
          have d1 : decide (z < b) = false := decide_eq_false (by omega)
          clear hz h2
          go_wp2_with fail
          go_roundw
          case rel => exact ⟨i + 1, m, by omega, rfl, HM2, by omega, by go_num, trivial⟩
          case measure => simp [intOf]; omega
      · have h1 : (u : Int) < a := by
          by_cases c : a ≤ (u : Int)
          · exact absurd (hka.1 c) ca
          · omega
        have HM2 := hid (show m = min (i + 1) B - A by have := HM.out; omega)
        clear hka hkb
        obtain ⟨z, hz⟩ : ∃ z : Int, (u : Int) = z := ⟨_, rfl⟩
        rw [hz] at hcell h1
        have d1 : decide (a ≤ z) = false := decide_eq_false (by omega)
        clear hz h1
        go_wp2_with fail
        go_roundw
        case rel => exact ⟨i + 1, m, by omega, rfl, HM2, by omega, by go_num, trivial⟩
        case measure => simp [intOf]; omega
    · have i1 : ¬ ((i : Int) < (L : Int)) := by omega
      have hmm : m = B - A := by have := HM.out; omega
      subst hmm
      go_wp2_with fail
      go_ret
      exact ⟨rfl, rfl⟩
end Go.Proofs.YtcbfgodknonefaaDoor
