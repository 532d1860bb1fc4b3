/-
  Two lists of interests compared (the law's own call).
-/
import Derived.Test.YtknikhoobhgidaaFrS
namespace Go.Proofs.Ytknikhoobhgidaa
open Go.RowKit Go.Deep Go.Shelf
set_option linter.unusedVariables false
set_option linter.unusedSimpArgs false
set_option maxHeartbeats 4000000
set_option maxRecDepth 100000
theorem its_same (p p2 : Option Addr) (c c2 : Nat) (l : List It) (w : World) (h : Li w p c l) (h2 : Li w p2 c2 l) (hm : l.length ≤ 4096) :
    Calls Try.prog 15 #[.slice p l.length c, .slice p2 l.length c2] w fun e w' => e = .returned (.bool true) ∧ Below w.heap.size w w' := by
  obtain ⟨n, hn⟩ : ∃ n, l.length = n := ⟨_, rfl⟩
  have HN := hid hn
  have H1 := hid h
  have H2 := hid h2
  rw [hn] at hm ⊢
  clear hn h h2
  go_enter Try.func15, Try.ntmps15
  go_wp2_with fail
  go_loopw [5] (fun iv wr => ∃ i : Nat, i ≤ n ∧ iv = .int .i64 i ∧ Hid (Below w.heap.size w wr)) (fun iv _ => n - (intOf iv).toNat)
  case atStart => exact ⟨0, Nat.zero_le _, rfl, hid (Below.refl _ _)⟩
  case round =>
    obtain ⟨i, hin, rfl, HB⟩ := hrel
    by_cases hlt : i < n
    · have hil : i < l.length := by rw [HN.out]; exact hlt
      obtain ⟨g, hp, a0, a1, a2, a3, a4, a5⟩ := (H1.out.on HB.out).cells hil
      obtain ⟨g2, hp2, b0, b1, b2, b3, b4, b5⟩ := (H2.out.on HB.out).cells hil
      subst hp
      subst hp2
      obtain ⟨z, hz⟩ : ∃ z, l[i] = z := ⟨_, rfl⟩
      rw [hz] at a0 a1 a2 a3 a4 a5 b0 b1 b2 b3 b4 b5
      have i0' : (0 : Int) ≤ (i : Int) := by omega
      have i1 : (i : Int) < (n : Int) := by omega
      clear hz
      go_wp2_with fail
      go_region
      go_wp2
      go_roundw
      case rel => exact ⟨i + 1, by omega, by go_num, hid (btr HB.out (bdrew1 _))⟩
      case measure => simp [intOf]; omega
    · obtain rfl : i = n := by omega
      go_wp2
      go_ret
      exact ⟨rfl, HB.out⟩
end Go.Proofs.Ytknikhoobhgidaa
