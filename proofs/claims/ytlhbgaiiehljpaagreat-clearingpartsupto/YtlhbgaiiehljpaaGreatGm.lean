/-
  MonA
-/
import Derived.Test.YtlhbgaiiehljpaaGreatGt
import Derived.WalkLawsBesides
import Derived.Test.YtlhbgaiiehljpaaGreatMonM
import Derived.Shelf.Spec.BitsCarry
import Derived.Deep.RegionWith
namespace Go.Proofs.YtlhbgaiiehljpaaGreat
open Go.RowKit MonM
set_option linter.unusedVariables false
/-- an amount as a value. -/
abbrev mv (m : Int) : Value := .agg #[.int .u64 (hiW m), .int .u64 (loW m)]
def sgn (m : Int) : Int := if m < 0 then -1 else if 0 < m then 1 else 0
def bor (x y : Int) : Int := if x < y then 1 else 0
theorem sub64 (x y b : Int) (hx : 0 ≤ x) (hy : 0 ≤ y) (hy' : y < 18446744073709551616) (hb0 : 0 ≤ b) (hb : b ≤ 1) (w : World) : (callFunc 68 #[.int .u64 x, .int .u64 y, .int .u64 b]).run Tryz.prog w =
    .ok (.value (.tuple #[.int .u64 ((x - y - b) % 18446744073709551616), .int .u64 (if x < y + b then 1 else 0)])) w := by
  obtain ⟨x, rfl⟩ := Int.eq_ofNat_of_zero_le hx
  obtain ⟨y, rfl⟩ := Int.eq_ofNat_of_zero_le hy
  obtain ⟨b, rfl⟩ := Int.eq_ofNat_of_zero_le hb0
  have e1 : (((x + 18446744073709551616 - y - b) % 18446744073709551616 : Nat) : Int) = ((x : Int) - y - b) % 18446744073709551616 := by omega
  have e2 : ((if x < y + b then 1 else 0 : Nat) : Int) = if (x : Int) < y + b then 1 else 0 := by split <;> split <;> omega
  rw [← e1, ← e2, run_callFunc_extern Tryz.func68 (by kernel_rfl) (by kernel_rfl) (by kernel_rfl) (e := sub64Entry) (by kernel_rfl), run_sub64 x y b (by omega)]
  rfl
theorem sub64_0 (x y : Int) (hx : 0 ≤ x) (hy : 0 ≤ y) (hy' : y < 18446744073709551616) (w : World) : (callFunc 68 #[.int .u64 x, .int .u64 y, .int .u64 0]).run Tryz.prog w =
    .ok (.value (.tuple #[.int .u64 ((x - y) % 18446744073709551616), .int .u64 (bor x y)])) w := by
  have h := sub64 x y 0 hx hy hy' (Int.le_refl 0) (by decide) w
  rw [show x - y - 0 = x - y from by omega, show y + 0 = y from by omega] at h
  exact h
set_option maxHeartbeats 400000 in
theorem none_yes (w : World) :
    Calls Tryz.prog 56 #[.agg #[.int .u64 9223372036854775808, .int .u64 0]] w fun e w' => e = .returned (.bool true) ∧ Below w.heap.size w w' := by
  go_enter Tryz.func56, Tryz.ntmps56
  go_wp2
  go_ret
  exact ⟨rfl, (Below.refl _ _).alloc (Nat.le_refl _) _⟩
set_option maxHeartbeats 400000 in
theorem none_no (H L : Int) (w : World) (h : ¬ (H = 9223372036854775808 ∧ L = 0)) :
    Calls Tryz.prog 56 #[.agg #[.int .u64 H, .int .u64 L]] w fun e w' => e = .returned (.bool false) ∧ Below w.heap.size w w' := by
  by_cases h1 : H = 9223372036854775808
  · have h2 : ¬ L = 0 := fun e => h ⟨h1, e⟩
    clear h
    subst h1
    go_enter Tryz.func56, Tryz.ntmps56
    go_wp2
    go_ret
    exact ⟨rfl, (Below.refl _ _).alloc (Nat.le_refl _) _⟩
  · clear h
    go_enter Tryz.func56, Tryz.ntmps56
    go_wp2
    go_ret
    exact ⟨rfl, (Below.refl _ _).alloc (Nat.le_refl _) _⟩
set_option maxHeartbeats 400000 in
theorem words_any (H L : Int) (w : World) :
    Calls Tryz.prog 113 #[.agg #[.int .u64 H, .int .u64 L]] w fun e w' => e = .returned (.agg #[.int .u64 H, .int .u64 L]) ∧ Below w.heap.size w w' := by
  go_enter Tryz.func113, Tryz.ntmps113
  go_wp2
  exact bodyPost_ret (v := .agg #[.int .u64 H, .int .u64 L]) (by simp [results, Tryz.results113, go_sem]) rfl ⟨rfl, ((Below.refl _ _).alloc (Nat.le_refl _) _).alloc (by simp) _⟩
set_option maxHeartbeats 400000 in
theorem sign_any (m : Int) (w : World) (hm : Amt m) :
    Calls Tryz.prog 11 #[mv m] w fun e w' => e = .returned (.int .i64 (sgn m)) ∧ Below w.heap.size w w' := by
  obtain ⟨m0, m1⟩ := hm
  have hw := words m (by omega) m1
  have hh := hiW_word m
  have hl := loW_word m
  have ht := and_top (hiW m) hh.1 hh.2
  unfold mv
  by_cases h0 : m = 0
  · subst h0
    go_enter Tryz.func11, Tryz.ntmps11
    rw [show hiW 0 = 0 from rfl, show loW 0 = 0 from rfl]
    go_wp2
    go_ret
    exact ⟨rfl, (Below.refl _ _).alloc (Nat.le_refl _) _⟩
  · by_cases h1 : m < 0
    · have es : sgn m = -1 := if_pos h1
      rw [es]
      have g1 : ¬ hiW m = 0 := by omega
      rw [if_pos (by omega)] at ht
      generalize hiW m = H at *
      generalize loW m = L at *
      clear es hw hh hl h0 h1 m0 m1
      go_enter Tryz.func11, Tryz.ntmps11
      go_wp2
      go_ret
      exact ⟨rfl, (Below.refl _ _).alloc (Nat.le_refl _) _⟩
    · have es : sgn m = 1 := by unfold sgn; rw [if_neg h1, if_pos (by omega)]
      rw [es]
      rw [if_neg (by omega)] at ht
      have g1 : ¬ (hiW m = 0 ∧ loW m = 0) := by omega
      generalize hiW m = H at *
      generalize loW m = L at *
      clear es hw hh hl h0 h1 m0 m1
      by_cases g2 : H = 0
      · have g3 : ¬ L = 0 := fun e => g1 ⟨g2, e⟩
        clear g1
        subst g2
        go_enter Tryz.func11, Tryz.ntmps11
        go_wp2
        go_ret
        exact ⟨rfl, (Below.refl _ _).alloc (Nat.le_refl _) _⟩
      · clear g1
        go_enter Tryz.func11, Tryz.ntmps11
        go_wp2
        go_ret
        exact ⟨rfl, (Below.refl _ _).alloc (Nat.le_refl _) _⟩
set_option maxHeartbeats 800000 in
theorem neg_any (m : Int) (w : World) :
    Calls Tryz.prog 37 #[mv m] w fun e w' => e = .returned (mv (-m)) ∧ Below w.heap.size w w' := by
  have hn := neg_words m
  obtain ⟨hh0, hh1⟩ := hiW_word m
  obtain ⟨hl0, hl1⟩ := loW_word m
  unfold mv
  have eb : (if 0 < loW m then 1 else 0 : Int) = bor 0 (loW m) := rfl
  rw [eb] at hn
  have b0 : 0 ≤ bor 0 (loW m) := by unfold bor; split <;> decide
  have b1 : bor 0 (loW m) ≤ 1 := by unfold bor; split <;> decide
  have k1 := sub64_0 0 (loW m) (by decide) hl0 hl1
  have k2 := sub64 0 (hiW m) (bor 0 (loW m)) (by decide) hh0 hh1 b0 b1
  rw [← hn.2] at k1
  rw [← hn.1] at k2
  obtain ⟨t, ht⟩ : ∃ t : Int, (if 0 < hiW m + bor 0 (loW m) then 1 else 0 : Int) = t := ⟨_, rfl⟩
  rw [ht] at k2
  have W1 := hiW_word (-m)
  have W2 := loW_word (-m)
  generalize hiW (-m) = H' at *
  generalize loW (-m) = L' at *
  generalize bor 0 (loW m) = b at *
  generalize hiW m = H at *
  generalize loW m = L at *
  clear hn eb ht W1 W2
  go_enter Tryz.func37, Tryz.ntmps37
  go_wp2_with (first | simp only [k1] | simp only [k2])
  exact bodyPost_ret (v := .agg #[.int .u64 H', .int .u64 L']) (by simp [results, Tryz.results37, go_sem]) rfl ⟨rfl, ((Below.refl _ _).alloc (Nat.le_refl _) _).alloc (by simp) _⟩
set_option maxHeartbeats 400000 in
theorem numTimes_any (p q : Int) (w : World) (hp0 : 0 ≤ p) (hp1 : p < 4294967296) (hq : Word q) :
    Calls Tryz.prog 67 #[.int .u32 p, .int .u64 q] w fun e w' => e = .returned (mv (p * q)) ∧ Below w.heap.size w w' := by
  have hp : Word p := ⟨hp0, by omega⟩
  have hm := mul_word p q hp hq
  have e1 : mulH p q = hiW (p * q) := by unfold mulH hiW; omega
  have e2 : mulL p q = loW (p * q) := rfl
  have C := hid (fun w => mul64_any p q w hp hq)
  rw [e1, e2] at C
  clear e1 e2 hm hp hq
  go_enter Tryz.func67, Tryz.ntmps67
  go_wp2_with fail
  refine (C.out _).mono ?_; rintro e w1 ⟨rfl, rfl⟩
  go_wp2
  exact bodyPost_ret (v := mv (p * q)) (by simp [results, Tryz.results67, go_sem]) rfl ⟨rfl, (Below.refl _ _).alloc (Nat.le_refl _) _⟩
end Go.Proofs.YtlhbgaiiehljpaaGreat
namespace Go.Proofs.YtlhbgaiiehljpaaGreat
open Go.RowKit MonM
set_option linter.unusedVariables false
theorem bcell {W w1 : World} (hb : Below W.heap.size W w1) : (∀ b o, b < W.heap.size → w1.cell? ⟨b, o, none⟩ = W.cell? ⟨b, o, none⟩) ∧ (∀ b o, b < W.heap.size → w1.frozen? ⟨b, o, none⟩ = W.frozen? ⟨b, o, none⟩) :=
  ⟨fun b o h => hb.cell (p := ⟨b, o, none⟩) h, fun b o h => hb.frozen (p := ⟨b, o, none⟩) h⟩
theorem bal {w w' : World} (h : Below w.heap.size w w') (o : Obj) : Below w.heap.size w (w'.alloc o) := h.alloc h.size o
theorem btr {w w' w1 : World} (h : Below w.heap.size w w') (k : Below w'.heap.size w' w1) : Below w.heap.size w w1 := h.trans (k.mono h.size)
theorem b0 (w : World) : Below w.heap.size w w := Below.refl _ _
set_option maxHeartbeats 1000000 in
theorem madd_walk (H1 L1 H2 L2 h l c T t : Int) (w : World) (hT : T = 0 ∨ T = 9223372036854775808)
    (k1 : ∀ w, (callFunc 55 #[.int .u64 L1, .int .u64 L2, .int .u64 0]).run Tryz.prog w = .ok (.value (.tuple #[.int .u64 l, .int .u64 c])) w)
    (k2 : ∀ w, (callFunc 55 #[.int .u64 H1, .int .u64 H2, .int .u64 c]).run Tryz.prog w = .ok (.value (.tuple #[.int .u64 h, .int .u64 t])) w)
    (ht : bits .and .u64 (bits .and .u64 (bits .xor .u64 H1 h) (bits .xor .u64 H2 h)) 9223372036854775808 = T) :
    Calls Tryz.prog 26 #[.agg #[.int .u64 H1, .int .u64 L1], .agg #[.int .u64 H2, .int .u64 L2]] w fun e w' =>
      (e = .returned (.tuple #[.agg #[.int .u64 (if T = 0 ∧ ¬ (h = 9223372036854775808 ∧ l = 0) then h else 0), .int .u64 (if T = 0 ∧ ¬ (h = 9223372036854775808 ∧ l = 0) then l else 0)], .int .i64 (if T = 0 ∧ ¬ (h = 9223372036854775808 ∧ l = 0) then 0 else 10)])) ∧ Below w.heap.size w w' := by
  rcases hT with rfl | rfl
  · by_cases hn : h = 9223372036854775808 ∧ l = 0
    · rw [if_neg (fun e => e.2 hn), if_neg (fun e => e.2 hn), if_neg (fun e => e.2 hn)]
      obtain ⟨rfl, rfl⟩ := hn
      go_enter Tryz.func26, Tryz.ntmps26
      go_wp2_with (first | simp only [k1] | simp only [k2])
      refine (none_yes _).mono ?_
      rintro e w1 ⟨rfl, hb⟩
      obtain ⟨hc, hf⟩ := bcell hb
      have hz := hb.size
      simp at hz
      have HB := hid hb
      clear hb
      go_wp2
      exact bodyPost_ret (v := .tuple #[.agg #[.int .u64 0, .int .u64 0], .int .i64 10]) (by simp [results, Tryz.results26, go_sem, hc]) rfl ⟨rfl, ((btr (bal (bal (bal (bal (b0 w) _) _) _) _) HB.out).setCell (by dsimp only; omega) _).setCell (by dsimp only; omega) _⟩
    · rw [if_pos ⟨rfl, hn⟩, if_pos ⟨rfl, hn⟩, if_pos ⟨rfl, hn⟩]
      have HN := hid hn
      clear hn
      go_enter Tryz.func26, Tryz.ntmps26
      go_wp2_with (first | simp only [k1] | simp only [k2])
      refine (none_no h l _ HN.out).mono ?_
      rintro e w1 ⟨rfl, hb⟩
      obtain ⟨hc, hf⟩ := bcell hb
      have hz := hb.size
      simp at hz
      have HB := hid hb
      clear hb
      go_wp2
      exact bodyPost_ret (v := .tuple #[.agg #[.int .u64 h, .int .u64 l], .int .i64 0]) (by simp [results, Tryz.results26, go_sem, hc]) rfl ⟨rfl, ((btr (bal (bal (bal (bal (b0 w) _) _) _) _) HB.out).setCell (by dsimp only; omega) _).setCell (by dsimp only; omega) _⟩
  · rw [if_neg (fun e => absurd e.1 (by decide)), if_neg (fun e => absurd e.1 (by decide)), if_neg (fun e => absurd e.1 (by decide))]
    go_enter Tryz.func26, Tryz.ntmps26
    go_wp2_with (first | simp only [k1] | simp only [k2])
    exact bodyPost_ret (v := .tuple #[.agg #[.int .u64 0, .int .u64 0], .int .i64 10]) (by simp [results, Tryz.results26, go_sem]) rfl ⟨rfl, bal (bal (bal (bal (b0 w) _) _) _) _⟩
/-- a sum, where it is one. -/
def maddV (m n : Int) : Int := if -170141183460469231731687303715884105727 ≤ m + n ∧ m + n ≤ 170141183460469231731687303715884105727 then m + n else 0
def maddE (m n : Int) : Int := if -170141183460469231731687303715884105727 ≤ m + n ∧ m + n ≤ 170141183460469231731687303715884105727 then 0 else 10
theorem madd_any (m n : Int) (w : World) (hm : Amt m) (hn : Amt n) :
    Calls Tryz.prog 26 #[mv m, mv n] w fun e w' => e = .returned (.tuple #[mv (maddV m n), .int .i64 (maddE m n)]) ∧ Below w.heap.size w w' := by
  obtain ⟨m0, m1⟩ := hm; obtain ⟨n0, n1⟩ := hn
  have hs := add_words m n
  have wm := words m (by omega) m1
  have wn := words n (by omega) n1
  have am := hiW_word m
  have an := hiW_word n
  have hA := hiW_word (m + n)
  have lm := loW_word m
  have ln := loW_word n
  have ls := loW_word (m + n)
  have ht := over_top (hiW m) (hiW n) (hiW (m + n)) am.1 am.2 an.1 an.2 hA.1 hA.2
  have k1 := fun w => add64_0 (loW m) (loW n) lm.1 ln.1 w
  have k2 := fun w => add64 (hiW m) (hiW n) ((loW m + loW n) / 18446744073709551616) am.1 an.1 (by omega) (by omega) w
  rw [← hs.2] at k1
  rw [← hs.1] at k2
  refine (madd_walk _ _ _ _ _ _ _ _ _ w ?_ k1 k2 ht).mono ?_
  · split
    · right; rfl
    · left; rfl
  · rintro e w' ⟨rfl, hb⟩
    refine ⟨?_, hb⟩
    unfold maddV maddE
    have key : ((if (decide (9223372036854775808 ≤ hiW m) != decide (9223372036854775808 ≤ hiW (m + n))) && (decide (9223372036854775808 ≤ hiW n) != decide (9223372036854775808 ≤ hiW (m + n))) then (9223372036854775808 : Int) else 0) = 0 ∧ ¬ (hiW (m + n) = 9223372036854775808 ∧ loW (m + n) = 0)) ↔
        (-170141183460469231731687303715884105727 ≤ m + n ∧ m + n ≤ 170141183460469231731687303715884105727) := by
      have ea : decide (9223372036854775808 ≤ hiW m) = decide (m < 0) := by congr 1; apply propext; omega
      have eb : decide (9223372036854775808 ≤ hiW n) = decide (n < 0) := by congr 1; apply propext; omega
      rw [ea, eb]
      have sum : hiW (m + n) * 18446744073709551616 + loW (m + n) = (m + n) % 340282366920938463463374607431768211456 := by unfold hiW loW; omega
      generalize hiW (m + n) = H at *
      generalize loW (m + n) = L at *
      by_cases h1 : m < 0 <;> by_cases h2 : n < 0 <;> by_cases h3 : 9223372036854775808 ≤ H <;> simp [h1, h2, h3] <;> omega
    by_cases hk : -170141183460469231731687303715884105727 ≤ m + n ∧ m + n ≤ 170141183460469231731687303715884105727
    · have hk' := key.2 hk
      rw [if_pos hk', if_pos hk', if_pos hk', if_pos hk, if_pos hk]
    · have hk' : ¬ _ := fun e => hk (key.1 e)
      rw [if_neg hk', if_neg hk', if_neg hk', if_neg hk, if_neg hk]
      rfl
theorem madd_amt (m n : Int) : Amt (maddV m n) := by unfold maddV Amt; split <;> omega
end Go.Proofs.YtlhbgaiiehljpaaGreat
