/-
  MonC
-/
import Derived.Test.YtlhbgaiiehljpaaGreatGAm
import Derived.Test.YtlhbgaiiehljpaaGreatGAh
namespace Go.Proofs.YtlhbgaiiehljpaaGreat
open Go.RowKit MonM
set_option linter.unusedVariables false
def cmp3 (x y : Int) : Int := if x < y then -1 else if y < x then 1 else 0
set_option maxHeartbeats 1000000 in
theorem mcompare_walk (H1 L1 H2 L2 : Int) (w : World) (a0 : 0 ≤ H1) (a1 : H1 < 18446744073709551616) (b0' : 0 ≤ H2) (b1 : H2 < 18446744073709551616) (c0 : 0 ≤ L1) (d0 : 0 ≤ L2) :
  Calls Tryz.prog 10 #[.agg #[.int .u64 H1, .int .u64 L1], .agg #[.int .u64 H2, .int .u64 L2]] w fun e w' =>
   e = .returned (.int .i64 (if H1 = H2 ∧ L1 = L2 then 0 else if (if H1 = H2 then L1 < L2 else IntKind.i64.wrap H1 < IntKind.i64.wrap H2) then -1 else 1)) ∧ Below w.heap.size w w' := by
 by_cases h1 : H1 = H2
 ·subst h1
  by_cases h2 : L1 = L2
  ·subst h2
   rw [if_pos ⟨rfl, rfl⟩]
   go_enter Tryz.func10, Tryz.ntmps10
   go_wp2
   go_ret
   exact ⟨rfl, bal (bal (b0 w) _) _⟩
  ·rw [if_neg (fun e => h2 e.2)]
   by_cases h3 : L1 < L2
   ·rw [if_pos (by rw [if_pos rfl]; exact h3)]
    go_enter Tryz.func10, Tryz.ntmps10
    go_wp2
    go_ret
    exact ⟨rfl, bal (bal (b0 w) _) _⟩
   ·rw [if_neg (by rw [if_pos rfl]; exact h3)]
    have h4 : decide (L1 < L2) = false := by simpa using h3
    go_enter Tryz.func10, Tryz.ntmps10
    go_wp2
    go_ret
    exact ⟨rfl, bal (bal (b0 w) _) _⟩
 ·rw [if_neg (fun e => h1 e.1)]
  have h1' : (H1 != H2) = true := by simpa using h1
  obtain ⟨s1, e1⟩ : ∃ s, IntKind.i64.wrap H1 = s := ⟨_, rfl⟩
  obtain ⟨s2, e2⟩ : ∃ s, IntKind.i64.wrap H2 = s := ⟨_, rfl⟩
  by_cases h3 : s1 < s2
  ·rw [if_pos (by rw [if_neg h1, e1, e2]; exact h3)]
   go_enter Tryz.func10, Tryz.ntmps10
   go_wp2
   go_ret
   exact ⟨rfl, bal (bal (b0 w) _) _⟩
  ·rw [if_neg (by rw [if_neg h1, e1, e2]; exact h3)]
   have h4 : decide (s1 < s2) = false := by simpa using h3
   go_enter Tryz.func10, Tryz.ntmps10
   go_wp2
   go_ret
   exact ⟨rfl, bal (bal (b0 w) _) _⟩
theorem wrap_i64 (x : Int) : IntKind.i64.wrap x = (x + 9223372036854775808) % 18446744073709551616 - 9223372036854775808 := by
 simp [IntKind.wrap, IntKind.bits, IntKind.signed]; omega
theorem mcompare_any (m n : Int) (w : World) (hm : Amt m) (hn : Amt n) :
  Calls Tryz.prog 10 #[mv m, mv n] w fun e w' => e = .returned (.int .i64 (cmp3 m n)) ∧ Below w.heap.size w w' := by
 obtain ⟨m0, m1⟩ := hm; obtain ⟨n0, n1⟩ := hn
 have wm := words m (by omega) m1
 have wn := words n (by omega) n1
 have am := hiW_word m
 have an := hiW_word n
 have lm := loW_word m
 have ln := loW_word n
 refine (mcompare_walk (hiW m) (loW m) (hiW n) (loW n) w am.1 am.2 an.1 an.2 lm.1 ln.1).mono ?_
 rintro e w' ⟨rfl, hb⟩
 refine ⟨?_, hb⟩
 have e1 := wrap_i64 (hiW m)
 have e2 := wrap_i64 (hiW n)
 congr 2
 unfold cmp3
 generalize IntKind.i64.wrap (hiW m) = s1 at *
 generalize IntKind.i64.wrap (hiW n) = s2 at *
 generalize hiW m = H1 at *
 generalize loW m = L1 at *
 generalize hiW n = H2 at *
 generalize loW n = L2 at *
 by_cases h1 : H1 = H2
 ·by_cases h2 : L1 = L2
  ·rw [if_pos ⟨h1, h2⟩, if_neg (by omega), if_neg (by omega)]
  ·rw [if_neg (fun e => h2 e.2)]
   by_cases h3 : L1 < L2
   ·rw [if_pos (by rw [if_pos h1]; exact h3), if_pos (by omega)]
   ·rw [if_neg (by rw [if_pos h1]; exact h3), if_neg (by omega), if_pos (by omega)]
 ·rw [if_neg (fun e => h1 e.1)]
  by_cases h3 : s1 < s2
  ·rw [if_pos (by rw [if_neg h1]; exact h3), if_pos (by omega)]
  ·rw [if_neg (by rw [if_neg h1]; exact h3), if_neg (by omega), if_pos (by omega)]
def absI (m : Int) : Int := if m < 0 then -m else m
set_option maxHeartbeats 1000000 in
theorem msize_any (m : Int) (w : World) (hm : Amt m) :
  Calls Tryz.prog 45 #[mv m] w fun e w' => e = .returned (mv (absI m)) ∧ Below w.heap.size w w' := by
 have S := hid (fun w => sign_any m w hm)
 have N := hid (fun w => neg_any m w)
 unfold absI
 by_cases h : m < 0
 ·rw [if_pos h]
  have es : sgn m = -1 := if_pos h
  rw [es] at S
  unfold mv at *
  generalize hiW (-m) = H' at *
  generalize loW (-m) = L' at *
  generalize hiW m = H at *
  generalize loW m = L at *
  clear es h hm
  go_enter Tryz.func45, Tryz.ntmps45
  go_wp2_with fail
  refine (S.out _).mono ?_
  rintro e w1 ⟨rfl, hb⟩
  obtain ⟨hc, hf⟩ := bcell hb
  have hz := hb.size
  simp at hz
  have HB := hid hb
  clear hb
  go_wp2_with fail
  refine (N.out _).mono ?_
  rintro e w2 ⟨rfl, hb⟩
  obtain ⟨hc2, hf2⟩ := bcell hb
  have hz2 := hb.size
  have HB2 := hid hb
  clear hb
  have k1 : w.heap.size + 1 < w1.heap.size := by omega
  go_wp2
  exact bodyPost_ret (v := .agg #[.int .u64 H', .int .u64 L']) (by simp [results, Tryz.results45, go_sem, hc, hc2, k1]) rfl ⟨rfl, ((btr (btr (bal (bal (b0 w) _) _) HB.out) HB2.out).setCell (by dsimp only; omega) _).setCell (by dsimp only; omega) _⟩
 ·rw [if_neg h]
  have es : 0 ≤ sgn m := by unfold sgn; rw [if_neg h]; split <;> decide
  unfold mv at *
  generalize sgn m = s at *
  generalize hiW m = H at *
  generalize loW m = L at *
  clear h hm N
  go_enter Tryz.func45, Tryz.ntmps45
  go_wp2_with fail
  refine (S.out _).mono ?_
  rintro e w1 ⟨rfl, hb⟩
  obtain ⟨hc, hf⟩ := bcell hb
  have hz := hb.size
  simp at hz
  have HB := hid hb
  clear hb
  go_wp2
  exact bodyPost_ret (v := .agg #[.int .u64 H, .int .u64 L]) (by simp [results, Tryz.results45, go_sem, hc]) rfl ⟨rfl, ((btr (bal (bal (b0 w) _) _) HB.out).setCell (by dsimp only; omega) _).setCell (by dsimp only; omega) _⟩
end Go.Proofs.YtlhbgaiiehljpaaGreat
namespace Go.Proofs.YtlhbgaiiehljpaaGreat
open Go.RowKit MonM
set_option linter.unusedVariables false
theorem amt_neg (n : Int) (h : Amt n) : Amt (-n) := by unfold Amt at *; omega
set_option maxHeartbeats 1000000 in
theorem lastDigit_walk (H L q r h1 : Int) (w : World) (hh0 : 0 ≤ H) (hh1 : H < 18446744073709551616) (r0 : 0 ≤ r) (r1 : r < 10) (hq : H / 10 = h1)
  (D : Hid (∀ w : World, Calls Tryz.prog 74 #[.int .u64 (H % 10), .int .u64 L, .int .u64 10] w fun e w' => e = .returned (.tuple #[.int .u64 q, .int .u64 r]) ∧ ∃ n, w' = w.drewN n)) :
  Calls Tryz.prog 46 #[.agg #[.int .u64 H, .int .u64 L]] w fun e w' => e = .returned (.tuple #[.agg #[.int .u64 h1, .int .u64 q], .int .u8 (48 + r)]) ∧ Below w.heap.size w w' := by
 go_enter Tryz.func46, Tryz.ntmps46
 go_wp2_with fail
 refine (D.out _).mono ?_
 rintro e w1 ⟨rfl, n, rfl⟩
 go_wp2
 exact bodyPost_ret (v := .tuple #[.agg #[.int .u64 h1, .int .u64 q], .int .u8 (48 + r)]) (by simp [results, Tryz.results46, go_sem]) rfl ⟨rfl, ((below_drewN (bal (bal (b0 w) _) _) _).setCell (by dsimp only; omega) _).setCell (by dsimp only; omega) _⟩
theorem lastDigit_any (m : Int) (w : World) (h0 : 0 ≤ m) (h1 : m ≤ 170141183460469231731687303715884105727) :
  Calls Tryz.prog 46 #[mv m] w fun e w' => e = .returned (.tuple #[mv (m / 10), .int .u8 (48 + m % 10)]) ∧ Below w.heap.size w w' := by
 have wm := words m (by omega) h1
 have wq := words (m / 10) (by omega) (by omega)
 have am := hiW_word m
 have lm := loW_word m
 have aq := hiW_word (m / 10)
 have lq := loW_word (m / 10)
 have D := fun w => div64_any (hiW m % 10) (loW m) 10 w (by omega) lm (by omega) (by decide)
 have e1 : divQ (hiW m % 10) (loW m) 10 = loW (m / 10) := by unfold divQ; omega
 have e2 : divR (hiW m % 10) (loW m) 10 = m % 10 := by unfold divR; omega
 rw [e1, e2] at D
 exact lastDigit_walk (hiW m) (loW m) (loW (m / 10)) (m % 10) (hiW (m / 10)) w am.1 am.2 (by omega) (by omega) (by omega) D
end Go.Proofs.YtlhbgaiiehljpaaGreat
