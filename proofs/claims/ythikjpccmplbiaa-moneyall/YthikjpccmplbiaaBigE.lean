/-
  The document's word and compare.
-/
import Derived.Test.YthikjpccmplbiaaBigD
namespace Go.Proofs.Ythikjpccmplbiaa
open Go.RowKit BigM
set_option linter.unusedVariables false

theorem val_drop (l : List Int) (k : Nat) : val (l.drop k) = at0 l k + 4294967296 * val (l.drop (k + 1)) := by
  by_cases hk : k < l.length
  · rw [List.drop_eq_getElem_cons hk]; simp [val, at0, hk]
  · rw [List.drop_of_length_le (by omega), List.drop_of_length_le (by omega)]
    simp [val, at0, List.getElem?_eq_none (show l.length ≤ k by omega)]
theorem dig_drop {l : List Int} (h : Dig l) (k : Nat) : Dig (l.drop k) := fun d hd => h d (List.mem_of_mem_drop hd)

set_option maxHeartbeats 400000 in
theorem word_long (w : World) (ds : List Int) (a : Option Addr) (cap : Nat) (hl : 2 < ds.length) (hm : ds.length ≤ maxLen) :
    Calls Try.prog 33 #[.slice a ds.length cap] w fun e w' => e = .returned (.tuple #[.int .u64 0, .int .i64 10]) ∧ w' = w := by
  unfold maxLen at hm
  go_enter Try.func33, Try.ntmps33
  go_wp2
  go_ret2
  exact ⟨rfl, rfl⟩

set_option maxHeartbeats 1000000 in
theorem word_short (w : World) (ds : List Int) (a : Option Addr) (cap : Nat) (hl : ds.length ≤ 2) (hd : Dig ds) (sa : 0 < ds.length → ∃ g o, a = some ⟨g, o, none⟩ ∧ CellsAt w g o ds) :
    Calls Try.prog 33 #[.slice a ds.length cap] w fun e w' => e = .returned (.tuple #[.int .u64 (val ds), .int .i64 0]) ∧ w' = w := by
  go_enter Try.func33, Try.ntmps33
  go_wp2
  go_loop [4, 5] (fun n i => ∃ k : Nat, k ≤ ds.length ∧ i = .int .i64 ((k : Int) - 1) ∧ n = .int .u64 (val (ds.drop k))) (fun _ i => (intOf i + 1).toNat)
  case atStart => exact ⟨ds.length, Nat.le_refl _, rfl, by rw [List.drop_length]; rfl⟩
  case round =>
    obtain ⟨k, hk, rfl, rfl⟩ := hrel
    by_cases h0 : k = 0
    · subst h0
      go_wp2
      go_ret2
      exact ⟨rfl, rfl⟩
    · obtain ⟨m, rfl⟩ : ∃ m, k = m + 1 := ⟨k - 1, by omega⟩
      obtain ⟨g, o, rfl, hc⟩ := sa (by omega)
      have cell := hc.2 m (by omega)
      have dx := at0_dig ds hd m
      have hn0 := val_nonneg _ (dig_drop hd (m + 1))
      have hn1 := val_lt _ (dig_drop hd (m + 1))
      have hn2 := pw_le (ds.drop (m + 1)).length 1 (by simp; omega)
      have hn3 : pw 1 = 4294967296 := rfl
      rw [hn3] at hn2
      have hst := val_drop ds m
      generalize at0 ds m = x at *
      generalize val (ds.drop (m + 1)) = n at *
      have hn4 : n < 4294967296 := by omega
      have HS := hid hst
      obtain ⟨x0, x1⟩ := dx
      clear hn1 hn2 hn3 hst hd hc sa
      have e1 : (((m + 1 : Nat) : Int) - 1) = (m : Int) := by omega
      rw [e1]
      go_wp2
      go_round
      case rel => exact ⟨m, by omega, by go_num, by rw [HS.out]; congr 1; omega⟩
      case measure => simp [intOf]

def wordV (x : Int) : Int := if x < 18446744073709551616 then x else 0
def wordE (x : Int) : Int := if x < 18446744073709551616 then 0 else 10
theorem pw2 : pw 2 = 18446744073709551616 := rfl
theorem word_any (w : World) (u : Value) (x : Int) (hu : Bn w u x) :
    Calls Try.prog 33 #[u] w fun e w' => e = .returned (.tuple #[.int .u64 (wordV x), .int .i64 (wordE x)]) ∧ w' = w := by
  obtain ⟨ds, x1, x2, x3, rfl⟩ := hu
  obtain ⟨a, cap, rfl, a1, a2⟩ := x1.shape
  have h0 := val_lt ds x2
  unfold wordV wordE
  by_cases h : ds.length ≤ 2
  · have h1 := pw_le ds.length 2 h
    rw [pw2] at h1
    rw [if_pos (by omega), if_pos (by omega)]
    exact word_short w ds a cap h x2 a2
  · have h1 := val_ge ds x2 x3 (by omega)
    have h2 := pw_le 2 (ds.length - 1) (by omega)
    rw [pw2] at h2
    rw [if_neg (by omega), if_neg (by omega)]
    exact word_long w ds a cap (by omega) a1

def cmpI (x y : Int) : Int := if x < y then -1 else if y < x then 1 else 0

set_option maxHeartbeats 1000000 in
theorem compare_walk (w : World) (xs ys : List Int) (a b : Option Addr) (ca cb : Nat) (hl : ys.length = xs.length) (hm : xs.length ≤ 1000) (da : Dig xs) (db : Dig ys)
    (sa : 0 < xs.length → ∃ g o, a = some ⟨g, o, none⟩ ∧ CellsAt w g o xs) (sb : 0 < xs.length → ∃ g o, b = some ⟨g, o, none⟩ ∧ CellsAt w g o ys) :
    Calls Try.prog 34 #[.slice a xs.length ca, .slice b xs.length cb] w fun e w' => e = .returned (.int .i64 (cmpI (val xs) (val ys))) ∧ ∃ n, w' = w.drewN n := by
  have HL := hid hl
  clear hl
  go_enter Try.func34, Try.ntmps34
  go_wp2
  go_loopw [5] (fun i wr => ∃ k n : Nat, k ≤ xs.length ∧ i = .int .i64 ((k : Int) - 1) ∧ Hid (∀ j, k ≤ j → at0 xs j = at0 ys j) ∧ wr = w.drewN n) (fun i _ => (intOf i + 1).toNat)
  case atStart => exact ⟨xs.length, 0, Nat.le_refl _, rfl, fun j hj => by have := HL.out; simp [at0, List.getElem?_eq_none (show xs.length ≤ j by omega), List.getElem?_eq_none (show ys.length ≤ j by omega)], rfl⟩
  case round =>
    obtain ⟨k, n, hk, rfl, HS, rfl⟩ := hrel
    by_cases h0 : k = 0
    · subst h0
      have HE := hid (show cmpI (val xs) (val ys) = 0 by
        have := eq_of_places xs ys HL.out.symm (fun j => HS.out j (Nat.zero_le _))
        unfold cmpI; rw [this]; simp)
      go_wp2
      go_ret
      exact ⟨by rw [HE.out]; rfl, n, rfl⟩
    · obtain ⟨m, rfl⟩ : ∃ m, k = m + 1 := ⟨k - 1, by omega⟩
      obtain ⟨ga, oa, rfl, hca⟩ := sa (by omega)
      obtain ⟨gb, ob, rfl, hcb⟩ := sb (by omega)
      have cellA := hca.2 m (by omega)
      have cellB := hcb.2 m (by have := HL.out; omega)
      obtain ⟨x, hx⟩ : ∃ x, at0 xs m = x := ⟨_, rfl⟩
      obtain ⟨y, hy⟩ : ∃ y, at0 ys m = y := ⟨_, rfl⟩
      have HX := hid hx
      have HY := hid hy
      rw [hx] at cellA
      rw [hy] at cellB
      have DA := hid da
      have DB := hid db
      have e1 : (((m + 1 : Nat) : Int) - 1) = (m : Int) := by omega
      have i0 : (0 : Int) ≤ (m : Int) := by omega
      have i1 : (m : Int) < (xs.length : Int) := by omega
      rw [e1]
      clear hx hy hca hcb sa sb da db e1
      by_cases h1 : x < y
      · have HE := hid (show cmpI (val xs) (val ys) = -1 by
          have := lt_of_place xs ys DA.out DB.out m (fun j hj => HS.out j (by omega)) (by rw [HX.out, HY.out]; exact h1)
          unfold cmpI; rw [if_pos this])
        go_wp2
        go_quiet (fail)
        go_wp2
        go_ret
        refine ⟨by rw [HE.out]; rfl, ?_⟩
        simp only [World.drewN_drewN]
        exact ⟨_, rfl⟩
      · by_cases h2 : y < x
        · have HE := hid (show cmpI (val xs) (val ys) = 1 by
            have := lt_of_place ys xs DB.out DA.out m (fun j hj => (HS.out j (by omega)).symm) (by rw [HX.out, HY.out]; exact h2)
            unfold cmpI; rw [if_neg (by omega), if_pos this])
          go_wp2
          go_quiet (fail)
          go_wp2
          go_quiet (fail)
          go_wp2
          go_ret
          refine ⟨by rw [HE.out]; rfl, ?_⟩
          simp only [World.drewN_drewN]
          exact ⟨_, rfl⟩
        · have HN := hid (show ∀ j, m ≤ j → at0 xs j = at0 ys j by
            intro j hj
            by_cases hjm : j = m
            · subst hjm; rw [HX.out, HY.out]; omega
            · exact HS.out j (by omega))
          go_wp2
          go_quiet (fail)
          go_wp2
          go_quiet (fail)
          go_wp2
          go_roundw
          case rel => exact ⟨m, _, by omega, by go_num, HN, rfl⟩
          case measure => simp [intOf]

set_option maxHeartbeats 400000 in
theorem compare_len (w : World) (a b : Option Addr) (n m ca cb : Nat) (hn : n ≤ 9223372036854775807) (hm : m ≤ 9223372036854775807) (h : (n != m) = true) :
    Calls Try.prog 34 #[.slice a n ca, .slice b m cb] w fun e w' => e = .returned (.int .i64 (if n < m then -1 else 1)) ∧ ∃ k, w' = w.drewN k := by
  by_cases h1 : n < m
  · rw [if_pos h1]
    have h2 : (((n : Int)) != (m : Int)) = true := by simp; omega
    go_enter Try.func34, Try.ntmps34
    go_wp2
    go_ret
    exact ⟨rfl, 0, rfl⟩
  · rw [if_neg h1]
    have h2 : (((n : Int)) != (m : Int)) = true := by simp at h ⊢; omega
    go_enter Try.func34, Try.ntmps34
    go_wp2
    go_ret
    exact ⟨rfl, 0, rfl⟩

theorem compare_any (w : World) (u v : Value) (x y : Int) (hu : Bn w u x) (hv : Bn w v y) (hx : x < pw 1000) (hy : y < pw 1000) :
    Calls Try.prog 34 #[u, v] w fun e w' => e = .returned (.int .i64 (cmpI x y)) ∧ ∃ n, w' = w.drewN n := by
  obtain ⟨xs, x1, x2, x3, rfl⟩ := hu
  obtain ⟨ys, y1, y2, y3, rfl⟩ := hv
  obtain ⟨a, ca, rfl, a1, a2⟩ := x1.shape
  obtain ⟨b, cb, rfl, b1, b2⟩ := y1.shape
  have l1 := len_le xs x2 x3 1000 hx
  have l2 := len_le ys y2 y3 1000 hy
  by_cases h : ys.length = xs.length
  · rw [h]
    rw [h] at b2
    exact compare_walk w xs ys a b ca cb h l1 x2 y2 a2 b2
  · refine (compare_len w a b xs.length ys.length ca cb (by omega) (by omega) (by simp; omega)).mono ?_
    rintro e w' ⟨rfl, n, rfl⟩
    refine ⟨?_, n, rfl⟩
    unfold cmpI
    by_cases h1 : xs.length < ys.length
    · rw [if_pos h1, if_pos (lt_of_len xs ys x2 y2 y3 h1)]
    · have h2 := lt_of_len ys xs y2 x2 x3 (by omega)
      rw [if_neg h1, if_neg (by omega), if_pos h2]
end Go.Proofs.Ythikjpccmplbiaa
