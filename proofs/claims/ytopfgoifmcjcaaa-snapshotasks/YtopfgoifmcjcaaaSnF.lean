/-
  Two books compared.
-/
import Derived.Test.YtopfgoifmcjcaaaSnE
namespace Go.Proofs.Ytopfgoifmcjcaaa
open Go.RowKit Go.Deep
set_option linter.unusedVariables false
set_option linter.unusedSimpArgs false
set_option maxHeartbeats 8000000
set_option maxRecDepth 100000
theorem same_any (k1 m1 h1 s1 k2 m2 h2 s2 : Int) (x1 x2 y1 y2 : Option Addr) (c1 c2 d1 d2 : Nat) (os1 os2 ps1 ps2 : List Or) (w : World) (hx1 : Sl w x1 c1 os1) (hx2 : Sl w x2 c2 os2) (hy1 : Sl w y1 d1 ps1) (hy2 : Sl w y2 d2 ps2) :
    Calls Try.prog 7 #[.agg #[.int .i64 k1, .int .i64 m1, .slice x1 os1.length c1, .slice x2 os2.length c2, .int .u64 h1, .int .u64 s1], .agg #[.int .i64 k2, .int .i64 m2, .slice y1 ps1.length d1, .slice y2 ps2.length d2, .int .u64 h2, .int .u64 s2]] w fun e w' => e = .returned (.bool (decide (k1 = k2 ∧ m1 = m2 ∧ h1 = h2 ∧ s1 = s2 ∧ os1 = ps1 ∧ os2 = ps2))) ∧ Below w.heap.size w w' := by
  have CE1 := hid (fun (U : World) (hU : Below w.heap.size w U) => equal_any x1 y1 c1 d1 os1 ps1 U (hx1.os'.on hU) (hy1.os'.on hU) hx1.len hy1.len)
  have CE2 := hid (fun (U : World) (hU : Below w.heap.size w U) => equal_any x2 y2 c2 d2 os2 ps2 U (hx2.os'.on hU) (hy2.os'.on hU) hx2.len hy2.len)
  have q := fun w => eqK k1 m1 k2 m2 w
  clear hx1 hx2 hy1 hy2
  obtain ⟨v1, e1⟩ : ∃ v, decide (os1 = ps1) = v := ⟨_, rfl⟩
  obtain ⟨v2, e2⟩ : ∃ v, decide (os2 = ps2) = v := ⟨_, rfl⟩
  have er : decide (k1 = k2 ∧ m1 = m2 ∧ h1 = h2 ∧ s1 = s2 ∧ os1 = ps1 ∧ os2 = ps2) = (decide (k1 = k2 ∧ m1 = m2) && ((h1 == h2) && ((s1 == s2) && (v1 && v2)))) := by
    rw [← e1, ← e2, Bool.eq_iff_iff]
    simp [and_assoc]
  rw [er]
  rw [e1] at CE1
  rw [e2] at CE2
  clear er e1 e2
  obtain ⟨n1, hn1⟩ : ∃ n, os1.length = n := ⟨_, rfl⟩
  obtain ⟨n2, hn2⟩ : ∃ n, os2.length = n := ⟨_, rfl⟩
  obtain ⟨n3, hn3⟩ : ∃ n, ps1.length = n := ⟨_, rfl⟩
  obtain ⟨n4, hn4⟩ : ∃ n, ps2.length = n := ⟨_, rfl⟩
  rw [hn1, hn3] at CE1
  rw [hn2, hn4] at CE2
  rw [hn1, hn2, hn3, hn4]
  clear hn1 hn2 hn3 hn4
  obtain ⟨v0, e0⟩ : ∃ v, decide (k1 = k2 ∧ m1 = m2) = v := ⟨_, rfl⟩
  rw [e0] at q ⊢
  clear e0
  cases v0 with
  | false =>
    go_enter Try.func7, Try.ntmps7
    go_wp2_with (first | (go_at_call 12; with_reducible refine (CE1.out _ (by first | exact btr (ball _ _) (ball _ _) | exact btr (btr (ball _ _) (ball _ _)) (bdrew _ _))).mono ?_; rintro e w1 ⟨rfl, dd1, rfl⟩) | (go_at_call 12; with_reducible refine (CE2.out _ (by first | exact btr (ball _ _) (ball _ _) | exact btr (btr (ball _ _) (ball _ _)) (bdrew _ _))).mono ?_; rintro e w2 ⟨rfl, dd2, rfl⟩))
    go_ret
    exact ⟨rfl, by first | exact btr (ball _ _) (ball _ _) | exact btr (btr (ball _ _) (ball _ _)) (bdrew _ _) | exact btr (btr (btr (ball _ _) (ball _ _)) (bdrew _ _)) (bdrew _ _)⟩
  | true =>
    by_cases hh : h1 = h2
    · subst hh
      by_cases hs : s1 = s2
      · subst hs
        cases v1 with
        | false =>
          go_enter Try.func7, Try.ntmps7
          go_wp2_with (first | (go_at_call 12; with_reducible refine (CE1.out _ (by first | exact btr (ball _ _) (ball _ _) | exact btr (btr (ball _ _) (ball _ _)) (bdrew _ _))).mono ?_; rintro e w1 ⟨rfl, dd1, rfl⟩) | (go_at_call 12; with_reducible refine (CE2.out _ (by first | exact btr (ball _ _) (ball _ _) | exact btr (btr (ball _ _) (ball _ _)) (bdrew _ _))).mono ?_; rintro e w2 ⟨rfl, dd2, rfl⟩))
          go_ret
          exact ⟨by simp, by first | exact btr (ball _ _) (ball _ _) | exact btr (btr (ball _ _) (ball _ _)) (bdrew _ _) | exact btr (btr (btr (ball _ _) (ball _ _)) (bdrew _ _)) (bdrew _ _)⟩
        | true =>
          cases v2 with
          | false =>
            go_enter Try.func7, Try.ntmps7
            go_wp2_with (first | (go_at_call 12; with_reducible refine (CE1.out _ (by first | exact btr (ball _ _) (ball _ _) | exact btr (btr (ball _ _) (ball _ _)) (bdrew _ _))).mono ?_; rintro e w1 ⟨rfl, dd1, rfl⟩) | (go_at_call 12; with_reducible refine (CE2.out _ (by first | exact btr (ball _ _) (ball _ _) | exact btr (btr (ball _ _) (ball _ _)) (bdrew _ _))).mono ?_; rintro e w2 ⟨rfl, dd2, rfl⟩))
            go_ret
            exact ⟨by simp, by first | exact btr (ball _ _) (ball _ _) | exact btr (btr (ball _ _) (ball _ _)) (bdrew _ _) | exact btr (btr (btr (ball _ _) (ball _ _)) (bdrew _ _)) (bdrew _ _)⟩
          | true =>
            go_enter Try.func7, Try.ntmps7
            go_wp2_with (first | (go_at_call 12; with_reducible refine (CE1.out _ (by first | exact btr (ball _ _) (ball _ _) | exact btr (btr (ball _ _) (ball _ _)) (bdrew _ _))).mono ?_; rintro e w1 ⟨rfl, dd1, rfl⟩) | (go_at_call 12; with_reducible refine (CE2.out _ (by first | exact btr (ball _ _) (ball _ _) | exact btr (btr (ball _ _) (ball _ _)) (bdrew _ _))).mono ?_; rintro e w2 ⟨rfl, dd2, rfl⟩))
            go_ret
            exact ⟨by simp, by first | exact btr (ball _ _) (ball _ _) | exact btr (btr (ball _ _) (ball _ _)) (bdrew _ _) | exact btr (btr (btr (ball _ _) (ball _ _)) (bdrew _ _)) (bdrew _ _)⟩
      · have hs' : (s1 == s2) = false := by simpa using hs
        clear hs
        go_enter Try.func7, Try.ntmps7
        go_wp2_with (first | (go_at_call 12; with_reducible refine (CE1.out _ (by first | exact btr (ball _ _) (ball _ _) | exact btr (btr (ball _ _) (ball _ _)) (bdrew _ _))).mono ?_; rintro e w1 ⟨rfl, dd1, rfl⟩) | (go_at_call 12; with_reducible refine (CE2.out _ (by first | exact btr (ball _ _) (ball _ _) | exact btr (btr (ball _ _) (ball _ _)) (bdrew _ _))).mono ?_; rintro e w2 ⟨rfl, dd2, rfl⟩))
        go_ret
        exact ⟨by simp [hs'], by first | exact btr (ball _ _) (ball _ _) | exact btr (btr (ball _ _) (ball _ _)) (bdrew _ _) | exact btr (btr (btr (ball _ _) (ball _ _)) (bdrew _ _)) (bdrew _ _)⟩
    · have hh' : (h1 == h2) = false := by simpa using hh
      clear hh
      go_enter Try.func7, Try.ntmps7
      go_wp2_with (first | (go_at_call 12; with_reducible refine (CE1.out _ (by first | exact btr (ball _ _) (ball _ _) | exact btr (btr (ball _ _) (ball _ _)) (bdrew _ _))).mono ?_; rintro e w1 ⟨rfl, dd1, rfl⟩) | (go_at_call 12; with_reducible refine (CE2.out _ (by first | exact btr (ball _ _) (ball _ _) | exact btr (btr (ball _ _) (ball _ _)) (bdrew _ _))).mono ?_; rintro e w2 ⟨rfl, dd2, rfl⟩))
      go_ret
      exact ⟨by simp [hh'], by first | exact btr (ball _ _) (ball _ _) | exact btr (btr (ball _ _) (ball _ _)) (bdrew _ _) | exact btr (btr (btr (ball _ _) (ball _ _)) (bdrew _ _)) (bdrew _ _)⟩
theorem rsame_any (k1 m1 h1 s1 k2 m2 h2 s2 : Int) (x1 x2 y1 y2 : Option Addr) (c1 c2 d1 d2 : Nat) (os1 os2 ps1 ps2 : List Or) (w : World) (hx1 : Sl w x1 c1 os1) (hx2 : Sl w x2 c2 os2) (hy1 : Sl w y1 d1 ps1) (hy2 : Sl w y2 d2 ps2) :
    Calls Try.prog 8 #[.agg #[.int .i64 k1, .int .i64 m1, .slice x1 os1.length c1, .slice x2 os2.length c2, .int .u64 h1, .int .u64 s1], .agg #[.int .i64 k2, .int .i64 m2, .slice y1 ps1.length d1, .slice y2 ps2.length d2, .int .u64 h2, .int .u64 s2]] w fun e w' => e = .returned (.bool (decide (k1 = k2 ∧ m1 = m2 ∧ h1 = h2 ∧ s1 = s2 ∧ os1 = ps1 ∧ os2 = ps2))) ∧ Below w.heap.size w w' := by
  have CE1 := hid (fun (U : World) (hU : Below w.heap.size w U) => sorders_any x1 y1 c1 d1 os1 ps1 U (hx1.os'.on hU) (hy1.os'.on hU) hx1.len hy1.len)
  have CE2 := hid (fun (U : World) (hU : Below w.heap.size w U) => sorders_any x2 y2 c2 d2 os2 ps2 U (hx2.os'.on hU) (hy2.os'.on hU) hx2.len hy2.len)
  have q := fun w => eqK k1 m1 k2 m2 w
  clear hx1 hx2 hy1 hy2
  obtain ⟨v1, e1⟩ : ∃ v, decide (os1 = ps1) = v := ⟨_, rfl⟩
  obtain ⟨v2, e2⟩ : ∃ v, decide (os2 = ps2) = v := ⟨_, rfl⟩
  have er : decide (k1 = k2 ∧ m1 = m2 ∧ h1 = h2 ∧ s1 = s2 ∧ os1 = ps1 ∧ os2 = ps2) = (decide (k1 = k2 ∧ m1 = m2) && ((h1 == h2) && ((s1 == s2) && (v1 && v2)))) := by
    rw [← e1, ← e2, Bool.eq_iff_iff]
    simp [and_assoc]
  rw [er]
  rw [e1] at CE1
  rw [e2] at CE2
  clear er e1 e2
  obtain ⟨n1, hn1⟩ : ∃ n, os1.length = n := ⟨_, rfl⟩
  obtain ⟨n2, hn2⟩ : ∃ n, os2.length = n := ⟨_, rfl⟩
  obtain ⟨n3, hn3⟩ : ∃ n, ps1.length = n := ⟨_, rfl⟩
  obtain ⟨n4, hn4⟩ : ∃ n, ps2.length = n := ⟨_, rfl⟩
  rw [hn1, hn3] at CE1
  rw [hn2, hn4] at CE2
  rw [hn1, hn2, hn3, hn4]
  clear hn1 hn2 hn3 hn4
  obtain ⟨v0, e0⟩ : ∃ v, decide (k1 = k2 ∧ m1 = m2) = v := ⟨_, rfl⟩
  rw [e0] at q ⊢
  clear e0
  cases v0 with
  | false =>
    go_enter Try.func8, Try.ntmps8
    go_wp2_with (first | (go_at_call 13; with_reducible refine (CE1.out _ (by first | exact btr (ball _ _) (ball _ _) | exact btr (btr (ball _ _) (ball _ _)) (bdrew _ _))).mono ?_; rintro e w1 ⟨rfl, dd1, rfl⟩) | (go_at_call 13; with_reducible refine (CE2.out _ (by first | exact btr (ball _ _) (ball _ _) | exact btr (btr (ball _ _) (ball _ _)) (bdrew _ _))).mono ?_; rintro e w2 ⟨rfl, dd2, rfl⟩))
    go_ret
    exact ⟨rfl, by first | exact btr (ball _ _) (ball _ _) | exact btr (btr (ball _ _) (ball _ _)) (bdrew _ _) | exact btr (btr (btr (ball _ _) (ball _ _)) (bdrew _ _)) (bdrew _ _)⟩
  | true =>
    by_cases hh : h1 = h2
    · subst hh
      by_cases hs : s1 = s2
      · subst hs
        cases v1 with
        | false =>
          go_enter Try.func8, Try.ntmps8
          go_wp2_with (first | (go_at_call 13; with_reducible refine (CE1.out _ (by first | exact btr (ball _ _) (ball _ _) | exact btr (btr (ball _ _) (ball _ _)) (bdrew _ _))).mono ?_; rintro e w1 ⟨rfl, dd1, rfl⟩) | (go_at_call 13; with_reducible refine (CE2.out _ (by first | exact btr (ball _ _) (ball _ _) | exact btr (btr (ball _ _) (ball _ _)) (bdrew _ _))).mono ?_; rintro e w2 ⟨rfl, dd2, rfl⟩))
          go_ret
          exact ⟨by simp, by first | exact btr (ball _ _) (ball _ _) | exact btr (btr (ball _ _) (ball _ _)) (bdrew _ _) | exact btr (btr (btr (ball _ _) (ball _ _)) (bdrew _ _)) (bdrew _ _)⟩
        | true =>
          cases v2 with
          | false =>
            go_enter Try.func8, Try.ntmps8
            go_wp2_with (first | (go_at_call 13; with_reducible refine (CE1.out _ (by first | exact btr (ball _ _) (ball _ _) | exact btr (btr (ball _ _) (ball _ _)) (bdrew _ _))).mono ?_; rintro e w1 ⟨rfl, dd1, rfl⟩) | (go_at_call 13; with_reducible refine (CE2.out _ (by first | exact btr (ball _ _) (ball _ _) | exact btr (btr (ball _ _) (ball _ _)) (bdrew _ _))).mono ?_; rintro e w2 ⟨rfl, dd2, rfl⟩))
            go_ret
            exact ⟨by simp, by first | exact btr (ball _ _) (ball _ _) | exact btr (btr (ball _ _) (ball _ _)) (bdrew _ _) | exact btr (btr (btr (ball _ _) (ball _ _)) (bdrew _ _)) (bdrew _ _)⟩
          | true =>
            go_enter Try.func8, Try.ntmps8
            go_wp2_with (first | (go_at_call 13; with_reducible refine (CE1.out _ (by first | exact btr (ball _ _) (ball _ _) | exact btr (btr (ball _ _) (ball _ _)) (bdrew _ _))).mono ?_; rintro e w1 ⟨rfl, dd1, rfl⟩) | (go_at_call 13; with_reducible refine (CE2.out _ (by first | exact btr (ball _ _) (ball _ _) | exact btr (btr (ball _ _) (ball _ _)) (bdrew _ _))).mono ?_; rintro e w2 ⟨rfl, dd2, rfl⟩))
            go_ret
            exact ⟨by simp, by first | exact btr (ball _ _) (ball _ _) | exact btr (btr (ball _ _) (ball _ _)) (bdrew _ _) | exact btr (btr (btr (ball _ _) (ball _ _)) (bdrew _ _)) (bdrew _ _)⟩
      · have hs' : (s1 == s2) = false := by simpa using hs
        clear hs
        go_enter Try.func8, Try.ntmps8
        go_wp2_with (first | (go_at_call 13; with_reducible refine (CE1.out _ (by first | exact btr (ball _ _) (ball _ _) | exact btr (btr (ball _ _) (ball _ _)) (bdrew _ _))).mono ?_; rintro e w1 ⟨rfl, dd1, rfl⟩) | (go_at_call 13; with_reducible refine (CE2.out _ (by first | exact btr (ball _ _) (ball _ _) | exact btr (btr (ball _ _) (ball _ _)) (bdrew _ _))).mono ?_; rintro e w2 ⟨rfl, dd2, rfl⟩))
        go_ret
        exact ⟨by simp [hs'], by first | exact btr (ball _ _) (ball _ _) | exact btr (btr (ball _ _) (ball _ _)) (bdrew _ _) | exact btr (btr (btr (ball _ _) (ball _ _)) (bdrew _ _)) (bdrew _ _)⟩
    · have hh' : (h1 == h2) = false := by simpa using hh
      clear hh
      go_enter Try.func8, Try.ntmps8
      go_wp2_with (first | (go_at_call 13; with_reducible refine (CE1.out _ (by first | exact btr (ball _ _) (ball _ _) | exact btr (btr (ball _ _) (ball _ _)) (bdrew _ _))).mono ?_; rintro e w1 ⟨rfl, dd1, rfl⟩) | (go_at_call 13; with_reducible refine (CE2.out _ (by first | exact btr (ball _ _) (ball _ _) | exact btr (btr (ball _ _) (ball _ _)) (bdrew _ _))).mono ?_; rintro e w2 ⟨rfl, dd2, rfl⟩))
      go_ret
      exact ⟨by simp [hh'], by first | exact btr (ball _ _) (ball _ _) | exact btr (btr (ball _ _) (ball _ _)) (bdrew _ _) | exact btr (btr (btr (ball _ _) (ball _ _)) (bdrew _ _)) (bdrew _ _)⟩
end Go.Proofs.Ytopfgoifmcjcaaa
