/-
  IndexMap, whatever comes in.
-/
import Derived.Test.YthidnipmkffilaaIxMapA
namespace Go.Proofs.Ythidnipmkffilaa
open Go.RowKit Go.Deep
set_option linter.unusedVariables false
set_option linter.unusedSimpArgs false
set_option maxHeartbeats 1000000 in
set_option maxRecDepth 100000 in
theorem mapW_bad {room : Int} (h : room < 1 ∨ 65536 < room) (q : Option Addr) (cap m : Nat) (q2 : Option Addr) (cap2 m2 : Nat) (w : World) :
    Calls Try.prog 6 #[.int .i64 room, .slice q m cap, .slice q2 m2 cap2] w fun e w' => e = .returned (.bool true) ∧ Below w.heap.size w w' := by
  have hN := new_bad h w
  have HLV := hid (lives_any w)
  by_cases h1 : room < 1
  · clear h
    go_enter Try.func6, Try.ntmps6
    go_wp2_with (first | (go_at_call 17; with_reducible refine hN.mono ?_; rintro e w9 ⟨rfl, h9⟩; subst w9) | (go_at_call 18; with_reducible refine (HLV.out).mono ?_; rintro e w9 ⟨rfl, hb⟩; have HB := hid hb; clear hb; refine Hid.out ?_))
    refine hid ?_
    go_wp2_with fail
    go_ret
    exact ⟨rfl, HB.out⟩
  · have h2 : 65536 < room := by omega
    clear h
    go_enter Try.func6, Try.ntmps6
    go_wp2_with (first | (go_at_call 17; with_reducible refine hN.mono ?_; rintro e w9 ⟨rfl, h9⟩; subst w9) | (go_at_call 18; with_reducible refine (HLV.out).mono ?_; rintro e w9 ⟨rfl, hb⟩; have HB := hid hb; clear hb; refine Hid.out ?_))
    refine hid ?_
    go_wp2_with fail
    go_ret
    exact ⟨rfl, HB.out⟩
theorem indexMap_walk (a : Int) (ha : -9223372036854775808 ≤ a ∧ a < 9223372036854775808) {w : World} (q : Option Addr) (cap : Nat) (l : List StV) (hV : Stz w q l) (hb : ∀ x ∈ l, 0 ≤ x.k ∧ x.k ≤ 18446744073709551615) (hm : l.length ≤ maxLen) (q2 : Option Addr) (cap2 : Nat) (l2 : List Int) (hV2 : Kyz w q2 l2) (hb2 : ∀ x ∈ l2, 0 ≤ x ∧ x ≤ 18446744073709551615) (hm2 : l2.length ≤ maxLen) :
    Calls Try.prog 6 #[.int .i64 a, .slice q l.length cap, .slice q2 l2.length cap2] w fun e w' => e = .returned (.bool true) ∧ Below w.heap.size w w' := by
  by_cases h : a < 1 ∨ 65536 < a
  · exact mapW_bad h q cap l.length q2 cap2 l2.length w
  · obtain ⟨r, rfl⟩ := Int.eq_ofNat_of_zero_le (show 0 ≤ a by omega)
    exact mapW_any (by omega) (by omega) q cap l hV hb hm q2 cap2 l2 hV2 hb2 hm2
end Go.Proofs.Ythidnipmkffilaa
