/-
  BitmapNear's walk.
-/
import Derived.Test.YtcbfgodknonefaaDoorBmQ0
import Derived.Test.YtcbfgodknonefaaDoorBmQ1
import Derived.Test.YtcbfgodknonefaaDoorBmQ2
import Derived.Test.YtcbfgodknonefaaDoorBmQ3
namespace Go.Proofs.YtcbfgodknonefaaDoor
open Go.RowKit Go.Deep Bt
set_option linter.unusedVariables false

theorem near (v : Value) (xs : List Int) (t : Int) (w : World) (h1 : Is w w.heap.size v xs) (hxw : ∀ x ∈ xs, -9223372036854775808 ≤ x ∧ x < 9223372036854775808) (hL : Laid w) (h0 : 0 < w.heap.size) (hl1 : xs.length < 9223372036854775807) (ht1 : -9223372036854775808 ≤ t) (ht2 : t ≤ 9223372036854775807) :
    Calls Tryd.prog 6 #[v, .int .i64 t] w fun e w' => e = .returned (.bool true) ∧ Below w.heap.size w w' := by
  obtain ⟨r, hr⟩ := abv_ex (fill xs) t
  obtain ⟨s, hs⟩ := blw_ex (fill xs) t
  cases r with
  | none =>
    cases s with
    | none => exact near_nn v xs t w h1 hL h0 hl1 ht1 ht2 hxw hr hs
    | some d => exact near_ns d v xs t w h1 hL h0 hl1 ht1 ht2 hxw hr hs
  | some u =>
    cases s with
    | none => exact near_sn u v xs t w h1 hL h0 hl1 ht1 ht2 hxw hr hs
    | some d => exact near_ss u d v xs t w h1 hL h0 hl1 ht1 ht2 hxw hr hs
end Go.Proofs.YtcbfgodknonefaaDoor
