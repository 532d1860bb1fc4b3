/-
  The law's flat; trees between two calls.
-/
import Derived.Test.YtldpkmegofncfaaAvJ
namespace Go.Proofs.Ytldpkmegofncfaa
open Go.RowKit Go.Deep
set_option linter.unusedVariables false
set_option linter.unusedSimpArgs false
theorem F_pos {m : Nat} (h : 1 ≤ m) : 1 ≤ T.F m := T.F_mono (a := 1) h
theorem pow_le44 {i : Nat} (h : i ≤ 44) : 2 ^ i ≤ 2 ^ 44 := Nat.pow_le_pow_right (by omega) h
set_option maxHeartbeats 2000000 in
set_option maxRecDepth 100000 in
theorem flat_law (n h : Nat) (w : World) (h1 : T.F h ≤ n) (h2 : n < 2 ^ h) (h3 : h ≤ 44) (h4 : n < 2971215072) (h5 : h ≤ n) :
    Calls Try.prog 21 #[.int .i64 n, .int .i64 h] w fun e w' => e = .returned (.bool true) ∧ w' = w := by
  by_cases hn : n = 0
  · subst hn
    have hh : h = 0 := by omega
    subst hh
    simp only [Int.natCast_zero] at *
    clear h1 h2 h3 h4 h5
    go_enter Try.func21, Try.ntmps21
    go_wp2
    go_ret
    exact ⟨rfl, rfl⟩
  · have n1 : ((n : Int) == 0) = false := by simp; omega
    have hpos : 1 ≤ h := by
      rcases Nat.eq_zero_or_pos h with rfl | hp
      · simp at h2; omega
      · exact hp
    have H := hid (And.intro h1 (And.intro h2 (And.intro h3 (And.intro h4 hpos))))
    have g1 : (1 : Int) ≤ (h : Int) := by omega
    have b1 : (n : Int) < 2971215072 := by omega
    have b2 : (h : Int) ≤ 44 := by omega
    clear h1 h2 h3 h4 h5 hpos hn
    go_enter Try.func21, Try.ntmps21
    go_wp2_with fail
    go_loopw [5, 6, 7, 8] (fun lv nv mv iv wr => ∃ i a b c : Nat, 1 ≤ i ∧ i ≤ h ∧ lv = .int .i64 a ∧ nv = .int .i64 b ∧ mv = .int .i64 c ∧ iv = .int .i64 i ∧ wr = w ∧ Hid (a = T.F i ∧ b = T.F (i + 1) ∧ c = 2 ^ i)) (fun _ _ _ iv _ => h - (intOf iv).toNat)
    case atStart => exact ⟨1, 1, 2, 2, by omega, H.out.2.2.2.2, rfl, rfl, rfl, rfl, rfl, rfl, rfl, rfl⟩
    case round =>
      obtain ⟨i, a, b, c, hi1, hi2, rfl, rfl, rfl, rfl, rfl, HE⟩ := hrel
      obtain ⟨ea, eb, ec⟩ := HE.out
      obtain ⟨p1, p2, p3, p4, p5⟩ := H.out
      have q1 : a ≤ n := by rw [ea]; exact Nat.le_trans (T.F_mono hi2) p1
      by_cases hc : i = h
      · subst hc
        have k1 : (a : Int) ≤ (n : Int) := by omega
        have k2 : (n : Int) < (c : Int) := by rw [ec]; omega
        have k3 : decide ((i : Int) < (i : Int)) = false := by simp
        clear ea eb ec p1 p2 p3 p4 p5 q1 hi1 hi2 H HE
        go_wp2_with fail
        go_ret
        exact ⟨rfl, rfl⟩
      · have hlt : (i : Int) < (h : Int) := by omega
        have q2 : b ≤ n := by rw [eb]; exact Nat.le_trans (T.F_mono (by omega)) p1
        have q3 : c ≤ 17592186044416 := by rw [ec]; exact pow_le44 (by omega)
        have HN := hid (show b = T.F (i + 1) ∧ a + b + 1 = T.F (i + 1 + 1) ∧ c * 2 = 2 ^ (i + 1) from ⟨eb, by rw [ea, eb, Nat.add_comm (T.F i)]; rfl, by rw [ec, Nat.pow_succ]⟩)
        have k1 : (a : Int) ≤ 2971215072 := by omega
        have k2 : (b : Int) ≤ 2971215072 := by omega
        have k3 : (c : Int) ≤ 17592186044416 := by omega
        have k4 : decide ((n : Int) < (b : Int)) = false := by simp; omega
        have k5 : decide (n < b) = false := by simp; omega
        have w1 : IntKind.i64.wrap ((a : Int) + b) = a + b := by simp [IntKind.wrap, IntKind.bits, IntKind.signed]; omega
        have w2 : IntKind.i64.wrap ((a : Int) + b + 1) = ((a + b + 1 : Nat) : Int) := by simp [IntKind.wrap, IntKind.bits, IntKind.signed]; omega
        have w3 : IntKind.i64.wrap ((c : Int) * 2) = ((c * 2 : Nat) : Int) := by simp [IntKind.wrap, IntKind.bits, IntKind.signed]; omega
        have w4 : IntKind.i64.wrap ((i : Int) + 1) = ((i + 1 : Nat) : Int) := by simp [IntKind.wrap, IntKind.bits, IntKind.signed]; omega
        have HI := hid (show 1 ≤ i + 1 ∧ i + 1 ≤ h by omega)
        generalize a + b + 1 = x at HN w2
        generalize c * 2 = y at HN w3
        generalize hi' : i + 1 = j at HI w4
        have HJ := hid hi'
        clear ea eb ec p1 p2 p3 p4 p5 q1 q2 q3 hi1 hi2 hc k1 k2 k3 hi'
        go_wp2_with fail
        go_roundw
        case rel => exact ⟨j, b, x, y, HI.out.1, HI.out.2, rfl, rfl, rfl, rfl, by first | trivial | rfl, hid (by rw [← HJ.out]; exact HN.out)⟩
        case measure =>
          have h1 := HJ.out
          have h2 := HI.out
          simp [intOf]; omega
/-- a tree's number and height go together. -/
theorem flat_tree {t : T} (g : Gd t) (w : World) : Calls Try.prog 21 #[.int .i64 t.n, .int .i64 t.h] w fun e w' => e = .returned (.bool true) ∧ w' = w :=
  flat_law t.n t.h w (T.F_le g.ok.av) (T.lt_pow t) g.h g.lim (T.h_le_n t)
end Go.Proofs.Ytldpkmegofncfaa
