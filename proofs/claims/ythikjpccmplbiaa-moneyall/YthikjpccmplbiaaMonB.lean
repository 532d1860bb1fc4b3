/-
  Amounts: Add, Compare, FromWords, size, Sub.
-/
import Derived.Test.YthikjpccmplbiaaMonA
import Derived.Deep.RegionWith
namespace Go.Proofs.Ythikjpccmplbiaa
open Go.RowKit MonM
set_option linter.unusedVariables false

theorem bcell {W w1 : World} (hb : Below W.heap.size W w1) : (∀ b o, b < W.heap.size → w1.cell? ⟨b, o, none⟩ = W.cell? ⟨b, o, none⟩) ∧ (∀ b o, b < W.heap.size → w1.frozen? ⟨b, o, none⟩ = W.frozen? ⟨b, o, none⟩) :=
  ⟨fun b o h => hb.cell (p := ⟨b, o, none⟩) h, fun b o h => hb.frozen (p := ⟨b, o, none⟩) h⟩

theorem bal {w w' : World} (h : Below w.heap.size w w') (o : Obj) : Below w.heap.size w (w'.alloc o) := h.alloc h.size o
theorem btr {w w' w1 : World} (h : Below w.heap.size w w') (k : Below w'.heap.size w' w1) : Below w.heap.size w w1 := h.trans (k.mono h.size)
theorem b0 (w : World) : Below w.heap.size w w := Below.refl _ _

set_option maxHeartbeats 1000000 in
theorem madd_walk (H1 L1 H2 L2 h l c T t : Int) (w : World) (hT : T = 0 ∨ T = 9223372036854775808)
    (k1 : ∀ w, (callFunc 44 #[.int .u64 L1, .int .u64 L2, .int .u64 0]).run Try.prog w = .ok (.value (.tuple #[.int .u64 l, .int .u64 c])) w)
    (k2 : ∀ w, (callFunc 44 #[.int .u64 H1, .int .u64 H2, .int .u64 c]).run Try.prog w = .ok (.value (.tuple #[.int .u64 h, .int .u64 t])) w)
    (ht : bits .and .u64 (bits .and .u64 (bits .xor .u64 H1 h) (bits .xor .u64 H2 h)) 9223372036854775808 = T) :
    Calls Try.prog 22 #[.agg #[.int .u64 H1, .int .u64 L1], .agg #[.int .u64 H2, .int .u64 L2]] w fun e w' =>
      (e = .returned (.tuple #[.agg #[.int .u64 (if T = 0 ∧ ¬ (h = 9223372036854775808 ∧ l = 0) then h else 0), .int .u64 (if T = 0 ∧ ¬ (h = 9223372036854775808 ∧ l = 0) then l else 0)], .int .i64 (if T = 0 ∧ ¬ (h = 9223372036854775808 ∧ l = 0) then 0 else 10)])) ∧ Below w.heap.size w w' := by
  rcases hT with rfl | rfl
  · by_cases hn : h = 9223372036854775808 ∧ l = 0
    · rw [if_neg (fun e => e.2 hn), if_neg (fun e => e.2 hn), if_neg (fun e => e.2 hn)]
      obtain ⟨rfl, rfl⟩ := hn
      go_enter Try.func22, Try.ntmps22
      go_wp2_with (first | simp only [k1] | simp only [k2])
      refine (none_yes _).mono ?_
      rintro e w1 ⟨rfl, hb⟩
      obtain ⟨hc, hf⟩ := bcell hb
      have hz := hb.size
      simp at hz
      have HB := hid hb
      clear hb
      go_wp2
      exact bodyPost_ret (v := .tuple #[.agg #[.int .u64 0, .int .u64 0], .int .i64 10]) (by simp [results, Try.results22, go_sem, hc]) rfl ⟨rfl, ((btr (bal (bal (bal (bal (b0 w) _) _) _) _) HB.out).setCell (by dsimp only; omega) _).setCell (by dsimp only; omega) _⟩
    · rw [if_pos ⟨rfl, hn⟩, if_pos ⟨rfl, hn⟩, if_pos ⟨rfl, hn⟩]
      have HN := hid hn
      clear hn
      go_enter Try.func22, Try.ntmps22
      go_wp2_with (first | simp only [k1] | simp only [k2])
      refine (none_no h l _ HN.out).mono ?_
      rintro e w1 ⟨rfl, hb⟩
      obtain ⟨hc, hf⟩ := bcell hb
      have hz := hb.size
      simp at hz
      have HB := hid hb
      clear hb
      go_wp2
      exact bodyPost_ret (v := .tuple #[.agg #[.int .u64 h, .int .u64 l], .int .i64 0]) (by simp [results, Try.results22, go_sem, hc]) rfl ⟨rfl, ((btr (bal (bal (bal (bal (b0 w) _) _) _) _) HB.out).setCell (by dsimp only; omega) _).setCell (by dsimp only; omega) _⟩
  · rw [if_neg (fun e => absurd e.1 (by decide)), if_neg (fun e => absurd e.1 (by decide)), if_neg (fun e => absurd e.1 (by decide))]
    go_enter Try.func22, Try.ntmps22
    go_wp2_with (first | simp only [k1] | simp only [k2])
    exact bodyPost_ret (v := .tuple #[.agg #[.int .u64 0, .int .u64 0], .int .i64 10]) (by simp [results, Try.results22, go_sem]) rfl ⟨rfl, bal (bal (bal (bal (b0 w) _) _) _) _⟩

/-- a sum, where it is one. -/
def maddV (m n : Int) : Int := if -170141183460469231731687303715884105727 ≤ m + n ∧ m + n ≤ 170141183460469231731687303715884105727 then m + n else 0
def maddE (m n : Int) : Int := if -170141183460469231731687303715884105727 ≤ m + n ∧ m + n ≤ 170141183460469231731687303715884105727 then 0 else 10

theorem madd_any (m n : Int) (w : World) (hm : Amt m) (hn : Amt n) :
    Calls Try.prog 22 #[mv m, mv n] w fun e w' => e = .returned (.tuple #[mv (maddV m n), .int .i64 (maddE m n)]) ∧ Below w.heap.size w w' := by
  obtain ⟨m0, m1⟩ := hm; obtain ⟨n0, n1⟩ := hn
  have hs := add_words m n
  have wm := words m (by omega) m1
  have wn := words n (by omega) n1
  have am := hiW_word m
  have an := hiW_word n
  have hA := hiW_word (m + n)
  have lm := loW_word m
  have ln := loW_word n
  have ls := loW_word (m + n)
  have ht := over_top (hiW m) (hiW n) (hiW (m + n)) am.1 am.2 an.1 an.2 hA.1 hA.2
  have k1 := fun w => add64_0 (loW m) (loW n) lm.1 ln.1 w
  have k2 := fun w => add64 (hiW m) (hiW n) ((loW m + loW n) / 18446744073709551616) am.1 an.1 (by omega) (by omega) w
  rw [← hs.2] at k1
  rw [← hs.1] at k2
  refine (madd_walk _ _ _ _ _ _ _ _ _ w ?_ k1 k2 ht).mono ?_
  · split
    · right; rfl
    · left; rfl
  · rintro e w' ⟨rfl, hb⟩
    refine ⟨?_, hb⟩
    unfold maddV maddE
    have key : ((if (decide (9223372036854775808 ≤ hiW m) != decide (9223372036854775808 ≤ hiW (m + n))) && (decide (9223372036854775808 ≤ hiW n) != decide (9223372036854775808 ≤ hiW (m + n))) then (9223372036854775808 : Int) else 0) = 0 ∧ ¬ (hiW (m + n) = 9223372036854775808 ∧ loW (m + n) = 0)) ↔
        (-170141183460469231731687303715884105727 ≤ m + n ∧ m + n ≤ 170141183460469231731687303715884105727) := by
      have ea : decide (9223372036854775808 ≤ hiW m) = decide (m < 0) := by congr 1; apply propext; omega
      have eb : decide (9223372036854775808 ≤ hiW n) = decide (n < 0) := by congr 1; apply propext; omega
      rw [ea, eb]
      have sum : hiW (m + n) * 18446744073709551616 + loW (m + n) = (m + n) % 340282366920938463463374607431768211456 := by unfold hiW loW; omega
      generalize hiW (m + n) = H at *
      generalize loW (m + n) = L at *
      by_cases h1 : m < 0 <;> by_cases h2 : n < 0 <;> by_cases h3 : 9223372036854775808 ≤ H <;> simp [h1, h2, h3] <;> omega
    by_cases hk : -170141183460469231731687303715884105727 ≤ m + n ∧ m + n ≤ 170141183460469231731687303715884105727
    · have hk' := key.2 hk
      rw [if_pos hk', if_pos hk', if_pos hk', if_pos hk, if_pos hk]
    · have hk' : ¬ _ := fun e => hk (key.1 e)
      rw [if_neg hk', if_neg hk', if_neg hk', if_neg hk, if_neg hk]
      rfl
theorem madd_amt (m n : Int) : Amt (maddV m n) := by unfold maddV Amt; split <;> omega
end Go.Proofs.Ythikjpccmplbiaa
