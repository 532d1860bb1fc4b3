/-
  IndexTwo, whatever comes in.
-/
import Derived.Test.YtehjmdolmkbncaaTwB1
import Derived.Test.YtehjmdolmkbncaaTwB2
import Derived.Test.YtehjmdolmkbncaaTwB3
import Derived.Test.YtehjmdolmkbncaaTwB4
namespace Go.Proofs.Ytehjmdolmkbncaa
open Go.RowKit Go.Deep
set_option linter.unusedVariables false
theorem indexTwo_walk (a : Int) (ha : -9223372036854775808 ≤ a ∧ a < 9223372036854775808) (b : Int) (hb' : -9223372036854775808 ≤ b ∧ b < 9223372036854775808) {w : World} (q : Option Addr) (cap : Nat) (l : List StV) (hV : Stz w q l) (hb : ∀ x ∈ l, 0 ≤ x.k ∧ x.k ≤ 18446744073709551615) (hm : l.length ≤ maxLen)
    (p : Option Addr) (cap2 : Nat) (ks : List Int) (hK : Kyz w p ks) (hk : ∀ x ∈ ks, 0 ≤ x ∧ x ≤ 18446744073709551615) (hkl : ks.length ≤ maxLen) :
    Calls Try.prog 8 #[.int .i64 a, .int .i64 b, .slice q l.length cap, .slice p ks.length cap2] w fun e w' => e = .returned (.bool true) ∧ Below w.heap.size w w' := by
  by_cases h : a < 1 ∨ 65536 < a
  · exact two_bad h b q p cap l.length cap2 ks.length w
  · obtain ⟨r, rfl⟩ := Int.eq_ofNat_of_zero_le (show 0 ≤ a by omega)
    by_cases g1 : b < 0
    · exact two_1 (by omega) (by omega) b r (Nat.le_refl _) (by omega) (decide_eq_true g1) rfl q cap l hV hb hm p cap2 ks hK hkl
    · by_cases g2 : 100 < b
      · exact two_2 (by omega) (by omega) b r (Nat.le_refl _) (by omega) (decide_eq_false g1) (decide_eq_true g2) rfl q cap l hV hb hm p cap2 ks hK hkl
      · by_cases g3 : 65536 < (r : Int) + b
        · exact two_3 (by omega) (by omega) b r (Nat.le_refl _) (by omega) (decide_eq_false g1) (decide_eq_false g2) (decide_eq_true g3) rfl q cap l hV hb hm p cap2 ks hK hkl
        · exact two_4 (by omega) (by omega) b (r + b.toNat) (by omega) (by omega) (decide_eq_false g1) (decide_eq_false g2) (decide_eq_false g3) (by omega) q cap l hV hb hm p cap2 ks hK hkl
end Go.Proofs.Ytehjmdolmkbncaa
