/-
  What a command is refused for by itself, by the document.
-/
import Derived.Test.YthdikkchblmebaaRuNw
import Derived.Test.YthdikkchblmebaaRuN
namespace Go.Proofs.Ythdikkchblmebaa
open Go.RowKit Go.Deep Go.Shelf
set_option linter.unusedVariables false
set_option linter.unusedSimpArgs false
set_option maxHeartbeats 4000000
set_option maxRecDepth 100000
def am (c : Cm) (k : Int) : Int :=
  if c.pr < 0 ∨ 262144 ≤ c.pr ∨ (k = 2 ∧ c.pr ≠ 0) then 94
  else if c.qt < 1 ∨ 4294967295 < c.qt then 95
  else if c.qt < c.pk ∨ (c.pk ≠ 0 ∧ ((k ≠ 1 ∧ k ≠ 5) ∨ 256 * c.pk < c.qt)) then 96
  else if c.id = 0 then 97
  else 0
theorem amounts_any (c : Cm) (k : Int) (w : World) (hc : CmOk c) : Calls Try.prog 18 #[.agg (cmr c), .int .i64 k] w fun e w' => e = .returned (.int .i64 (am c k)) ∧ Below w.heap.size w w' := by
  have hp0 := hc.pk0
  have hq0 := hc.qt0
  unfold cmr
  by_cases h1 : c.pr < 0
  · have bh1 : decide (c.pr < 0) = true := by simpa using h1
    have HAM := hid (show am c k = 94 from by unfold am; rw [if_pos (by omega)])
    clear hc hp0 hq0 h1
    go_enter Try.func18, Try.ntmps18
    go_wp2
    go_ret
    exact ⟨by rw [HAM.out]; rfl, ball _ _⟩
  · have bh1 : decide (c.pr < 0) = false := by simpa using h1
    by_cases h2 : 262144 ≤ c.pr
    · have bh2 : decide (262144 ≤ c.pr) = true := by simpa using h2
      have HAM := hid (show am c k = 94 from by unfold am; rw [if_pos (by omega)])
      clear hc hp0 hq0 h1 h2
      go_enter Try.func18, Try.ntmps18
      go_wp2
      go_ret
      exact ⟨by rw [HAM.out]; rfl, ball _ _⟩
    · have bh2 : decide (262144 ≤ c.pr) = false := by simpa using h2
      by_cases h3 : k = 2
      · subst h3
        by_cases h4 : c.pr = 0
        · rw [h4]
          skip
          by_cases h5 : c.qt < 1
          · have bh5 : decide (c.qt < 1) = true := by simpa using h5
            have HAM := hid (show am c 2 = 95 from by unfold am; rw [if_neg (by omega), if_pos (by omega)])
            clear hc hp0 hq0 h1 h2 h4 h5
            go_enter Try.func18, Try.ntmps18
            go_wp2
            go_ret
            exact ⟨by rw [HAM.out]; rfl, ball _ _⟩
          · have bh5 : decide (c.qt < 1) = false := by simpa using h5
            by_cases h6 : 4294967295 < c.qt
            · have bh6 : decide (4294967295 < c.qt) = true := by simpa using h6
              have HAM := hid (show am c 2 = 95 from by unfold am; rw [if_neg (by omega), if_pos (by omega)])
              clear hc hp0 hq0 h1 h2 h4 h5 h6
              go_enter Try.func18, Try.ntmps18
              go_wp2
              go_ret
              exact ⟨by rw [HAM.out]; rfl, ball _ _⟩
            · have bh6 : decide (4294967295 < c.qt) = false := by simpa using h6
              by_cases h7 : c.qt < c.pk
              · have bh7 : decide (c.qt < c.pk) = true := by simpa using h7
                have HAM := hid (show am c 2 = 96 from by unfold am; rw [if_neg (by omega), if_neg (by omega), if_pos (by omega)])
                clear hc hp0 hq0 h1 h2 h4 h5 h6 h7
                go_enter Try.func18, Try.ntmps18
                go_wp2
                go_ret
                exact ⟨by rw [HAM.out]; rfl, ball _ _⟩
              · have bh7 : decide (c.qt < c.pk) = false := by simpa using h7
                by_cases h8 : c.pk = 0
                · rw [h8]
                  have bz : decide (c.qt < 0) = false := by simp; omega
                  by_cases h9 : c.id = 0
                  · rw [h9]
                    skip
                    have HAM := hid (show am c 2 = 97 from by unfold am; rw [if_neg (by omega), if_neg (by omega), if_neg (by omega), if_pos (by omega)])
                    clear hc hp0 hq0 h1 h2 h4 h5 h6 h7 h8 h9
                    go_enter Try.func18, Try.ntmps18
                    go_wp2
                    go_ret
                    exact ⟨by rw [HAM.out]; rfl, ball _ _⟩
                  · have bh9 : (c.id == 0) = false := by simpa using h9
                    have nh9 : (c.id != 0) = true := by simpa using h9
                    have HAM := hid (show am c 2 = 0 from by unfold am; rw [if_neg (by omega), if_neg (by omega), if_neg (by omega), if_neg (by omega)])
                    clear hc hp0 hq0 h1 h2 h4 h5 h6 h7 h8 h9
                    go_enter Try.func18, Try.ntmps18
                    go_wp2
                    go_ret
                    exact ⟨by rw [HAM.out]; rfl, ball _ _⟩
                · have bh8 : (c.pk == 0) = false := by simpa using h8
                  have nh8 : (c.pk != 0) = true := by simpa using h8
                  have HAM := hid (show am c 2 = 96 from by unfold am; rw [if_neg (by omega), if_neg (by omega), if_pos (by omega)])
                  clear hc hp0 hq0 h1 h2 h4 h5 h6 h7 h8
                  go_enter Try.func18, Try.ntmps18
                  go_wp2
                  go_ret
                  exact ⟨by rw [HAM.out]; rfl, ball _ _⟩
        · have bh4 : (c.pr == 0) = false := by simpa using h4
          have nh4 : (c.pr != 0) = true := by simpa using h4
          have HAM := hid (show am c 2 = 94 from by unfold am; rw [if_pos (by omega)])
          clear hc hp0 hq0 h1 h2 h4
          go_enter Try.func18, Try.ntmps18
          go_wp2
          go_ret
          exact ⟨by rw [HAM.out]; rfl, ball _ _⟩
      · have bh3 : (k == 2) = false := by simpa using h3
        have nh3 : (k != 2) = true := by simpa using h3
        by_cases h10 : c.qt < 1
        · have bh10 : decide (c.qt < 1) = true := by simpa using h10
          have HAM := hid (show am c k = 95 from by unfold am; rw [if_neg (by omega), if_pos (by omega)])
          clear hc hp0 hq0 h1 h2 h3 h10
          go_enter Try.func18, Try.ntmps18
          go_wp2
          go_ret
          exact ⟨by rw [HAM.out]; rfl, ball _ _⟩
        · have bh10 : decide (c.qt < 1) = false := by simpa using h10
          by_cases h11 : 4294967295 < c.qt
          · have bh11 : decide (4294967295 < c.qt) = true := by simpa using h11
            have HAM := hid (show am c k = 95 from by unfold am; rw [if_neg (by omega), if_pos (by omega)])
            clear hc hp0 hq0 h1 h2 h3 h10 h11
            go_enter Try.func18, Try.ntmps18
            go_wp2
            go_ret
            exact ⟨by rw [HAM.out]; rfl, ball _ _⟩
          · have bh11 : decide (4294967295 < c.qt) = false := by simpa using h11
            by_cases h12 : c.qt < c.pk
            · have bh12 : decide (c.qt < c.pk) = true := by simpa using h12
              have HAM := hid (show am c k = 96 from by unfold am; rw [if_neg (by omega), if_neg (by omega), if_pos (by omega)])
              clear hc hp0 hq0 h1 h2 h3 h10 h11 h12
              go_enter Try.func18, Try.ntmps18
              go_wp2
              go_ret
              exact ⟨by rw [HAM.out]; rfl, ball _ _⟩
            · have bh12 : decide (c.qt < c.pk) = false := by simpa using h12
              by_cases h13 : c.pk = 0
              · rw [h13]
                have bz : decide (c.qt < 0) = false := by simp; omega
                by_cases h14 : c.id = 0
                · rw [h14]
                  skip
                  have HAM := hid (show am c k = 97 from by unfold am; rw [if_neg (by omega), if_neg (by omega), if_neg (by omega), if_pos (by omega)])
                  clear hc hp0 hq0 h1 h2 h3 h10 h11 h12 h13 h14
                  go_enter Try.func18, Try.ntmps18
                  go_wp2
                  go_ret
                  exact ⟨by rw [HAM.out]; rfl, ball _ _⟩
                · have bh14 : (c.id == 0) = false := by simpa using h14
                  have nh14 : (c.id != 0) = true := by simpa using h14
                  have HAM := hid (show am c k = 0 from by unfold am; rw [if_neg (by omega), if_neg (by omega), if_neg (by omega), if_neg (by omega)])
                  clear hc hp0 hq0 h1 h2 h3 h10 h11 h12 h13 h14
                  go_enter Try.func18, Try.ntmps18
                  go_wp2
                  go_ret
                  exact ⟨by rw [HAM.out]; rfl, ball _ _⟩
              · have bh13 : (c.pk == 0) = false := by simpa using h13
                have nh13 : (c.pk != 0) = true := by simpa using h13
                by_cases h15 : k = 1
                · subst h15
                  have hw : IntKind.u64.wrap (256 * c.pk) = 256 * c.pk := by rw [IntKind.wrap_u64]; omega
                  by_cases h16 : 256 * c.pk < c.qt
                  · have bh16 : decide (256 * c.pk < c.qt) = true := by simpa using h16
                    have HAM := hid (show am c 1 = 96 from by unfold am; rw [if_neg (by omega), if_neg (by omega), if_pos (by omega)])
                    clear hc hp0 hq0 h1 h2 h3 h10 h11 h12 h13 h16
                    go_enter Try.func18, Try.ntmps18
                    go_wp2
                    go_ret
                    exact ⟨by rw [HAM.out]; rfl, ball _ _⟩
                  · have bh16 : decide (256 * c.pk < c.qt) = false := by simpa using h16
                    by_cases h17 : c.id = 0
                    · rw [h17]
                      skip
                      have HAM := hid (show am c 1 = 97 from by unfold am; rw [if_neg (by omega), if_neg (by omega), if_neg (by omega), if_pos (by omega)])
                      clear hc hp0 hq0 h1 h2 h3 h10 h11 h12 h13 h16 h17
                      go_enter Try.func18, Try.ntmps18
                      go_wp2
                      go_ret
                      exact ⟨by rw [HAM.out]; rfl, ball _ _⟩
                    · have bh17 : (c.id == 0) = false := by simpa using h17
                      have nh17 : (c.id != 0) = true := by simpa using h17
                      have HAM := hid (show am c 1 = 0 from by unfold am; rw [if_neg (by omega), if_neg (by omega), if_neg (by omega), if_neg (by omega)])
                      clear hc hp0 hq0 h1 h2 h3 h10 h11 h12 h13 h16 h17
                      go_enter Try.func18, Try.ntmps18
                      go_wp2
                      go_ret
                      exact ⟨by rw [HAM.out]; rfl, ball _ _⟩
                · have bh15 : (k == 1) = false := by simpa using h15
                  have nh15 : (k != 1) = true := by simpa using h15
                  by_cases h18 : k = 5
                  · subst h18
                    have hw : IntKind.u64.wrap (256 * c.pk) = 256 * c.pk := by rw [IntKind.wrap_u64]; omega
                    by_cases h19 : 256 * c.pk < c.qt
                    · have bh19 : decide (256 * c.pk < c.qt) = true := by simpa using h19
                      have HAM := hid (show am c 5 = 96 from by unfold am; rw [if_neg (by omega), if_neg (by omega), if_pos (by omega)])
                      clear hc hp0 hq0 h1 h2 h3 h10 h11 h12 h13 h15 h19
                      go_enter Try.func18, Try.ntmps18
                      go_wp2
                      go_ret
                      exact ⟨by rw [HAM.out]; rfl, ball _ _⟩
                    · have bh19 : decide (256 * c.pk < c.qt) = false := by simpa using h19
                      by_cases h20 : c.id = 0
                      · rw [h20]
                        skip
                        have HAM := hid (show am c 5 = 97 from by unfold am; rw [if_neg (by omega), if_neg (by omega), if_neg (by omega), if_pos (by omega)])
                        clear hc hp0 hq0 h1 h2 h3 h10 h11 h12 h13 h15 h19 h20
                        go_enter Try.func18, Try.ntmps18
                        go_wp2
                        go_ret
                        exact ⟨by rw [HAM.out]; rfl, ball _ _⟩
                      · have bh20 : (c.id == 0) = false := by simpa using h20
                        have nh20 : (c.id != 0) = true := by simpa using h20
                        have HAM := hid (show am c 5 = 0 from by unfold am; rw [if_neg (by omega), if_neg (by omega), if_neg (by omega), if_neg (by omega)])
                        clear hc hp0 hq0 h1 h2 h3 h10 h11 h12 h13 h15 h19 h20
                        go_enter Try.func18, Try.ntmps18
                        go_wp2
                        go_ret
                        exact ⟨by rw [HAM.out]; rfl, ball _ _⟩
                  · have bh18 : (k == 5) = false := by simpa using h18
                    have nh18 : (k != 5) = true := by simpa using h18
                    have HAM := hid (show am c k = 96 from by unfold am; rw [if_neg (by omega), if_neg (by omega), if_pos (by omega)])
                    clear hc hp0 hq0 h1 h2 h3 h10 h11 h12 h13 h15 h18
                    go_enter Try.func18, Try.ntmps18
                    go_wp2
                    go_ret
                    exact ⟨by rw [HAM.out]; rfl, ball _ _⟩
theorem chk_am {c : Cm} : chk c = if c.kd = 2 then 0 else if c.kd = 3 then am c 1 else if c.kd = 1 then (if c.sd ≠ 1 ∧ c.sd ≠ 2 then 92 else if c.ty < 1 ∨ 5 < c.ty then 93 else am c c.ty) else 90 := by
  have key : ∀ c : Cm, isSd c.sd = true → ¬ (c.ty < 1 ∨ 5 < c.ty) → chO c = am c c.ty := by
    intro c h1 h2
    unfold chO am
    rw [if_neg (by rw [h1]; decide), if_neg h2]
    have hp : (isPr c.pr = false) ↔ (c.pr < 0 ∨ 262144 ≤ c.pr) := by
      unfold isPr
      simp only [Bool.and_eq_false_iff, decide_eq_false_iff_not]
      omega
    have hk : (pkF c = false) ↔ (¬ (c.ty = 1 ∨ c.ty = 5) ∨ c.qt < c.pk ∨ 256 * c.pk < c.qt) := by
      unfold pkF rst
      simp only [Bool.and_eq_false_iff, decide_eq_false_iff_not, Bool.or_eq_false_iff, beq_eq_false_iff_ne]
      omega
    simp only [hp, hk]
    by_cases a1 : c.pr < 0 ∨ 262144 ≤ c.pr ∨ (c.ty = 2 ∧ c.pr ≠ 0)
    · rw [if_pos a1, if_pos (by omega)]
    · rw [if_neg a1, if_neg (by omega)]
      by_cases a2 : c.qt < 1 ∨ 4294967295 < c.qt
      · rw [if_pos a2, if_pos a2]
      · rw [if_neg a2, if_neg a2]
        by_cases a3 : c.qt < c.pk ∨ (c.pk ≠ 0 ∧ ((c.ty ≠ 1 ∧ c.ty ≠ 5) ∨ 256 * c.pk < c.qt))
        · rw [if_pos a3, if_pos (by omega)]
        · rw [if_neg a3, if_neg (by omega)]
  unfold chk
  by_cases k1 : c.kd = 1
  · have k2 : ¬ c.kd = 2 := by omega
    have k3 : ¬ c.kd = 3 := by omega
    simp only [if_pos k1, if_neg k2, if_neg k3]
    by_cases s1 : c.sd ≠ 1 ∧ c.sd ≠ 2
    · rw [if_pos s1]
      unfold chO
      rw [if_pos (by unfold isSd; simp [s1])]
    · rw [if_neg s1]
      have hs : isSd c.sd = true := by
        unfold isSd
        simp
        omega
      by_cases t1 : c.ty < 1 ∨ 5 < c.ty
      · rw [if_pos t1]
        unfold chO
        rw [if_neg (by rw [hs]; decide), if_pos t1]
      · rw [if_neg t1]
        exact key c hs t1
  · by_cases k3 : c.kd = 3
    · have k2 : ¬ c.kd = 2 := by omega
      simp only [if_neg k1, if_pos k3, if_neg k2]
      exact key { c with sd := 1, ty := 1 } rfl (by show ¬ ((1 : Int) < 1 ∨ (5 : Int) < 1); omega)
    · by_cases k2 : c.kd = 2
      · simp only [if_neg k1, if_neg k3, if_pos k2]
      · simp only [if_neg k1, if_neg k3, if_neg k2]
theorem dcheck_any (c : Cm) (w : World) (hc : CmOk c) : Calls Try.prog 8 #[.agg (cmr c)] w fun e w' => e = .returned (.int .i64 (chk c)) ∧ Below w.heap.size w w' := by
  have C1 := hid (fun U => amounts_any c 1 U hc)
  have C2 := hid (fun U => amounts_any c c.ty U hc)
  rw [chk_am]
  obtain ⟨v1, hv1⟩ : ∃ v, am c 1 = v := ⟨_, rfl⟩
  obtain ⟨v2, hv2⟩ : ∃ v, am c c.ty = v := ⟨_, rfl⟩
  rw [hv1] at C1 ⊢
  rw [hv2] at C2 ⊢
  clear hv1 hv2 hc
  unfold cmr at C1 C2 ⊢
  by_cases k2 : c.kd = 2
  · rw [if_pos k2, k2]
    clear k2
    go_enter Try.func8, Try.ntmps8
    go_wp2
    go_ret
    exact ⟨rfl, ball _ _⟩
  · rw [if_neg k2]
    have k2' : (c.kd == 2) = false := by simpa using k2
    by_cases k3 : c.kd = 3
    · rw [if_pos k3]
      rw [k3] at C1 ⊢
      clear k2 k3 k2'
      go_enter Try.func8, Try.ntmps8
      go_wp2_with (go_at_call 18; with_reducible refine (C1.out _).mono ?_; rintro e w1 ⟨rfl, hb1⟩; have HB1 := hid hb1; clear hb1)
      go_ret
      exact ⟨rfl, btr (ball _ _) HB1.out⟩
    · rw [if_neg k3]
      have k3' : (c.kd == 3) = false := by simpa using k3
      by_cases k1 : c.kd = 1
      · rw [if_pos k1]
        rw [k1] at C2 ⊢
        clear k2 k3 k1 k2' k3'
        by_cases s1 : c.sd = 1
        · rw [if_neg (by omega)]
          rw [s1] at C2 ⊢
          by_cases t1 : c.ty < 1
          · rw [if_pos (by omega)]
            have t1' : decide (c.ty < 1) = true := by simpa using t1
            clear t1 s1
            go_enter Try.func8, Try.ntmps8
            go_wp2
            go_ret
            exact ⟨rfl, ball _ _⟩
          · have t1' : decide (c.ty < 1) = false := by simpa using t1
            by_cases t2 : 5 < c.ty
            · rw [if_pos (by omega)]
              have t2' : decide (5 < c.ty) = true := by simpa using t2
              clear t1 t2 s1
              go_enter Try.func8, Try.ntmps8
              go_wp2
              go_ret
              exact ⟨rfl, ball _ _⟩
            · rw [if_neg (by omega)]
              have t2' : decide (5 < c.ty) = false := by simpa using t2
              clear t1 t2 s1
              go_enter Try.func8, Try.ntmps8
              go_wp2_with (go_at_call 18; with_reducible refine (C2.out _).mono ?_; rintro e w1 ⟨rfl, hb1⟩; have HB1 := hid hb1; clear hb1)
              go_ret
              exact ⟨rfl, btr (ball _ _) HB1.out⟩
        · by_cases s2 : c.sd = 2
          · rw [if_neg (by omega)]
            rw [s2] at C2 ⊢
            clear s1
            by_cases t1 : c.ty < 1
            · rw [if_pos (by omega)]
              have t1' : decide (c.ty < 1) = true := by simpa using t1
              clear t1 s2
              go_enter Try.func8, Try.ntmps8
              go_wp2
              go_ret
              exact ⟨rfl, ball _ _⟩
            · have t1' : decide (c.ty < 1) = false := by simpa using t1
              by_cases t2 : 5 < c.ty
              · rw [if_pos (by omega)]
                have t2' : decide (5 < c.ty) = true := by simpa using t2
                clear t1 t2 s2
                go_enter Try.func8, Try.ntmps8
                go_wp2
                go_ret
                exact ⟨rfl, ball _ _⟩
              · rw [if_neg (by omega)]
                have t2' : decide (5 < c.ty) = false := by simpa using t2
                clear t1 t2 s2
                go_enter Try.func8, Try.ntmps8
                go_wp2_with (go_at_call 18; with_reducible refine (C2.out _).mono ?_; rintro e w1 ⟨rfl, hb1⟩; have HB1 := hid hb1; clear hb1)
                go_ret
                exact ⟨rfl, btr (ball _ _) HB1.out⟩
          · rw [if_pos ⟨s1, s2⟩]
            have s1' : (c.sd == 1) = false := by simpa using s1
            have s2' : (c.sd == 2) = false := by simpa using s2
            have s1n : (c.sd != 1) = true := by simpa using s1
            have s2n : (c.sd != 2) = true := by simpa using s2
            clear s1 s2
            go_enter Try.func8, Try.ntmps8
            go_wp2
            go_ret
            exact ⟨rfl, ball _ _⟩
      · rw [if_neg k1]
        have k1' : (c.kd == 1) = false := by simpa using k1
        clear k1 k2 k3
        go_enter Try.func8, Try.ntmps8
        go_wp2
        go_ret
        exact ⟨rfl, ball _ _⟩
end Go.Proofs.Ythdikkchblmebaa
