/-
  NumB
-/
import Derived.Test.YtlhbgaiiehljpaaGreatGt
namespace Go.Proofs.YtlhbgaiiehljpaaGreat
open Go.RowKit
theorem add_any (a b : Int) (w : World) (ha : Word a) (hb : Word b) :
    Calls Tryz.prog 60 #[.int .u64 a, .int .u64 b] w fun e w' => e = .returned (.tuple #[.int .u64 (addV a b), .int .i64 (addE a b)]) ∧ w' = w := by
  obtain ⟨a1, a2⟩ := ha; obtain ⟨b1, b2⟩ := hb
  unfold addV addE
  by_cases h : a + b < 18446744073709551616
  · have e1 : (a + b) % 18446744073709551616 = a + b := by omega
    have e2 : (a + b) / 18446744073709551616 = 0 := by omega
    have k := add64_0 a b a1 b1
    rw [e1, e2] at k
    clear e1 e2
    rw [if_pos h, if_pos h]
    go_enter Tryz.func60, Tryz.ntmps60
    go_wp2_with (simp only [k])
    go_ret2
    exact ⟨rfl, rfl⟩
  · have e2 : (a + b) / 18446744073709551616 = 1 := by omega
    have k := add64_0 a b a1 b1
    rw [e2] at k
    clear e2
    rw [if_neg h, if_neg h]
    go_enter Tryz.func60, Tryz.ntmps60
    go_wp2_with (simp only [k])
    go_ret2
    exact ⟨rfl, rfl⟩
def sumL (l : List Int) : Int := l.foldl (· + ·) 0
def sumV (l : List Int) : Int := if sumL l < 18446744073709551616 then sumL l else 0
def sumE (l : List Int) : Int := if sumL l < 18446744073709551616 then 0 else 10
theorem sumL_snoc (l : List Int) (x : Int) : sumL (l ++ [x]) = sumL l + x := by simp [sumL, List.foldl_append]
theorem foldl_add (l : List Int) (a : Int) : l.foldl (· + ·) a = a + l.foldl (· + ·) 0 := by
  induction l generalizing a with
  | nil => simp
  | cons x r ih => simp only [List.foldl_cons, Int.zero_add]; rw [ih (a + x), ih x]; omega
theorem sumL_cons (x : Int) (l : List Int) : sumL (x :: l) = x + sumL l := by
  unfold sumL; simp only [List.foldl_cons, Int.zero_add]; exact foldl_add l x
theorem sumL_append (a b : List Int) : sumL (a ++ b) = sumL a + sumL b := by
  induction a with
  | nil => simp [sumL]
  | cons x r ih => rw [List.cons_append, sumL_cons, sumL_cons, ih]; omega
theorem sumL_nonneg (l : List Int) (h : ∀ x, x ∈ l → 0 ≤ x) : 0 ≤ sumL l := by
  induction l with
  | nil => simp [sumL]
  | cons x r ih =>
    rw [sumL_cons]
    have h1 := h x (by simp)
    have h2 := ih (fun y hy => h y (by simp [hy]))
    omega
theorem sumL_take_le (l : List Int) (h : ∀ x, x ∈ l → 0 ≤ x) (k : Nat) : 0 ≤ sumL (l.take k) ∧ sumL (l.take k) ≤ sumL l := by
  have e : sumL l = sumL (l.take k) + sumL (l.drop k) := by rw [← sumL_append, List.take_append_drop]
  have h1 := sumL_nonneg (l.take k) (fun x hx => h x (List.mem_of_mem_take hx))
  have h2 := sumL_nonneg (l.drop k) (fun x hx => h x (List.mem_of_mem_drop hx))
  omega
theorem take_snoc (l : List Int) (k : Nat) (h : k < l.length) : l.take (k + 1) = l.take k ++ [l[k]?.getD 0] := by
  rw [List.take_succ_eq_append_getElem h]; simp [h]
set_option maxHeartbeats 1000000 in
theorem sum_any (zs : List Int) (b off cap : Nat) (w : World) (hbig : zs.length ≤ 9223372036854775807) (hz : ∀ x, x ∈ zs → Word x)
    (hc : ∀ j, j < zs.length → w.cell? ⟨b, off + j, none⟩ = some (.int .u64 (zs.getD j 0))) :
    Calls Tryz.prog 29 #[.slice (some ⟨b, off, none⟩) zs.length cap] w fun e w' => e = .returned (.tuple #[.int .u64 (sumV zs), .int .i64 (sumE zs)]) ∧ w' = w := by
  go_enter Tryz.func29, Tryz.ntmps29
  go_wp2
  go_loop [4, 10] (fun s i => ∃ k : Nat, k ≤ zs.length ∧ i = .int .i64 k ∧ sumL (zs.take k) < 18446744073709551616 ∧ s = .int .u64 (sumL (zs.take k))) (fun _ i => zs.length - (intOf i).toNat)
  case atStart => exact ⟨0, Nat.zero_le _, rfl, by simp [sumL], by simp [sumL]⟩
  case round =>
    obtain ⟨k, hk, rfl, hs, rfl⟩ := hrel
    have h0 := (sumL_take_le zs (fun x hx => (hz x hx).1) k).1
    by_cases hlt : k < zs.length
    · have hcell := hc k hlt
      have hx : Word (zs[k]?.getD 0) := by simp only [List.getElem?_eq_getElem hlt, Option.getD_some]; exact hz _ (List.getElem_mem hlt)
      have hsn : sumL (zs.take (k + 1)) = sumL (zs.take k) + zs[k]?.getD 0 := by rw [take_snoc zs k hlt]; exact sumL_snoc _ _
      have hle := (sumL_take_le zs (fun x hx => (hz x hx).1) (k + 1)).2
      rw [show zs.getD k 0 = zs[k]?.getD 0 from by simp [List.getD]] at hcell
      generalize zs[k]?.getD 0 = x at hcell hx hsn
      have HS : Hid (sumL (zs.take (k + 1)) = sumL (zs.take k) + x) := hsn
      by_cases hf : sumL (zs.take k) + x < 18446744073709551616
      · have hE : addE (sumL (zs.take k)) x = 0 := if_pos hf
        have hV : addV (sumL (zs.take k)) x = sumL (zs.take k) + x := if_pos hf
        have hA := add_any (sumL (zs.take k)) x
        rw [hE, hV] at hA
        have HA : Hid (_) := hA
        clear hE hV hle hsn hA hc hz
        go_wp2_with (go_at_call 60; refine (HA.out _ ⟨h0, hs⟩ hx).mono ?_; rintro e w' ⟨rfl, rfl⟩)
        go_round
        case rel => exact ⟨k + 1, by omega, by go_num, by rw [HS.out]; exact hf, by rw [HS.out]⟩
        case measure => simp [intOf]; omega
      · have hE : addE (sumL (zs.take k)) x = 10 := if_neg hf
        have hV : addV (sumL (zs.take k)) x = 0 := if_neg hf
        have hA := add_any (sumL (zs.take k)) x
        rw [hE, hV] at hA
        have HA : Hid (_) := hA
        have HF : Hid (sumV zs = 0 ∧ sumE zs = 10) := by
          have hn : ¬ sumL zs < 18446744073709551616 := by omega
          exact ⟨if_neg hn, if_neg hn⟩
        clear hE hV hle hsn hA hc hz
        go_wp2_with (go_at_call 60; refine (HA.out _ ⟨h0, hs⟩ hx).mono ?_; rintro e w' ⟨rfl, rfl⟩)
        go_ret2
        exact ⟨by rw [HF.out.1, HF.out.2]; rfl, rfl⟩
    · have HF : Hid (sumV zs = sumL (zs.take k) ∧ sumE zs = 0) := by
        have e : zs.take k = zs := List.take_of_length_le (by omega)
        rw [e] at hs ⊢
        exact ⟨if_pos hs, if_pos hs⟩
      go_wp2
      go_ret2
      exact ⟨by rw [HF.out.1, HF.out.2]; rfl, rfl⟩
end Go.Proofs.YtlhbgaiiehljpaaGreat
