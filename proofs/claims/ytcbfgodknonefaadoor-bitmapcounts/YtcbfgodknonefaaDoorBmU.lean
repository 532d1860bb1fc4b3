/-
  BitmapCounts' walk.
-/
import Derived.Test.YtcbfgodknonefaaDoorBmU1
import Derived.Test.YtcbfgodknonefaaDoorBmU2
import Derived.Test.YtcbfgodknonefaaDoorBmU3
namespace Go.Proofs.YtcbfgodknonefaaDoor
open Go.RowKit Go.Deep Bt
set_option linter.unusedVariables false

theorem counts (v : Value) (xs : List Int) (a b c : Int) (w : World) (h1 : Is w w.heap.size v xs) (hL : Laid w) (h0 : 0 < w.heap.size) (hl1 : xs.length < 9223372036854775807) (ha : a < 9223372036854775808) (hb : b < 9223372036854775808) (hc : c < 9223372036854775808) :
    Calls Tryd.prog 7 #[v, .int .i64 a, .int .i64 b, .int .i64 c] w fun e w' => e = .returned (.bool true) ∧ Below w.heap.size w w' := by
  by_cases p1 : a ≤ b
  · by_cases p2 : b ≤ c
    · by_cases r0 : a < 0
      · exact counts_11 v xs a b c w h1 hL h0 hl1 ha hb hc p1 p2 r0
      · by_cases r1 : a < 262144
        · exact counts_13 v xs a b c w h1 hL h0 hl1 ha hb hc p1 p2 (by omega) r1
        · exact counts_12 v xs a b c w h1 hL h0 hl1 ha hb hc p1 p2 (by omega) (by omega)
    · by_cases r0 : a < 0
      · exact counts_21 v xs a b c w h1 hL h0 hl1 ha hb hc p1 (by omega) r0
      · by_cases r1 : a < 262144
        · exact counts_23 v xs a b c w h1 hL h0 hl1 ha hb hc p1 (by omega) (by omega) r1
        · exact counts_22 v xs a b c w h1 hL h0 hl1 ha hb hc p1 (by omega) (by omega) (by omega)
  · by_cases r0 : a < 0
    · exact counts_31 v xs a b c w h1 hL h0 hl1 ha hb hc (by omega) r0
    · by_cases r1 : a < 262144
      · exact counts_33 v xs a b c w h1 hL h0 hl1 ha hb hc (by omega) (by omega) r1
      · exact counts_32 v xs a b c w h1 hL h0 hl1 ha hb hc (by omega) (by omega) (by omega)
end Go.Proofs.YtcbfgodknonefaaDoor
