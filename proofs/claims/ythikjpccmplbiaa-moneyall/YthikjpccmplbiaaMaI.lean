/-
  MoneyAll: the step, whatever is asked.
-/
import Derived.Test.YthikjpccmplbiaaMaD
import Derived.Test.YthikjpccmplbiaaMaE
import Derived.Test.YthikjpccmplbiaaMaF
import Derived.Test.YthikjpccmplbiaaMaG
import Derived.Test.YthikjpccmplbiaaMaH
namespace Go.Proofs.Ythikjpccmplbiaa.Dm
open Go.RowKit Go.Deep BigM MonM TexM ParM
set_option linter.unusedVariables false
theorem step_any (kd tt ta tb N h l x y rd : Int) (s : ByteArray) (w W0 : World) (G B : Nat) (m : Nat → Int) (hM : Mw w B m) (hb : Below G W0 w) (hG : G ≤ W0.heap.size) (hB : G ≤ B)
    (hN : -9223372036854775808 ≤ N ∧ N ≤ 9223372036854775807) (hh : 0 ≤ h ∧ h < 18446744073709551616) (hl : 0 ≤ l ∧ l < 18446744073709551616) (hx : 0 ≤ x ∧ x < 4294967296) (hy : 0 ≤ y ∧ y < 4294967296) (hs : s.size ≤ maxLen) :
    Calls Try.prog 4 #[.pointer (some ⟨B, 0, none⟩), .agg #[.int .i64 kd, .int .i64 tt, .int .i64 ta, .int .i64 tb, .int .i64 N, .int .u64 h, .int .u64 l, .string s, .int .u32 x, .int .u32 y, .int .i64 rd]] w fun e w' => e = .returned (.bool true) ∧ Below G W0 w' ∧ ∃ m', Mw w' B m' := by
  by_cases h0 : kd = 0
  · subst h0; exact step_zero tt ta tb N h l x y rd s w W0 G B m hM hb hG hB hN hh hl hx hy hs
  by_cases h1 : kd = 1
  · subst h1; exact step_one tt ta tb N h l x y rd s w W0 G B m hM hb hG hB hN hh hl hx hy hs
  by_cases h2 : kd = 2
  · subst h2; exact step_two tt ta tb N h l x y rd s w W0 G B m hM hb hG hB hN hh hl hx hy hs
  by_cases h3 : kd = 3
  · subst h3; exact step_three tt ta tb N h l x y rd s w W0 G B m hM hb hG hB hN hh hl hx hy hs
  by_cases h4 : kd = 4
  · subst h4; exact step_four tt ta tb N h l x y rd s w W0 G B m hM hb hG hB hN hh hl hx hy hs
  by_cases h5 : kd = 5
  · subst h5; exact step_five tt ta tb N h l x y rd s w W0 G B m hM hb hG hB hN hh hl hx hy hs
  by_cases h6 : kd = 6
  · subst h6; exact step_six tt ta tb N h l x y rd s w W0 G B m hM hb hG hB hN hh hl hx hy hs
  by_cases h7 : kd = 7
  · subst h7; exact step_seven tt ta tb N h l x y rd s w W0 G B m hM hb hG hB hN hh hl hx hy hs
  exact step_other kd tt ta tb N h l x y rd s w W0 G B m hM hb hG hB hN hh hl hx hy hs (by simp [h0]) (by simp [h1]) (by simp [h2]) (by simp [h3]) (by simp [h4]) (by simp [h5]) (by simp [h6]) (by simp [h7])
end Go.Proofs.Ythikjpccmplbiaa.Dm
