/-
  Two lists of orders compared; what is shown at a price; where an order stands.
-/
import Derived.Test.YtopfgoifmcjcaaaSnA
namespace Go.Proofs.Ytopfgoifmcjcaaa
open Go.RowKit Go.Deep
set_option linter.unusedVariables false
set_option linter.unusedSimpArgs false
set_option maxHeartbeats 4000000
set_option maxRecDepth 100000
theorem drewN_on {w : World} {d : Nat} {wr : World} (h : wr = w.drewN d) : Below w.heap.size w wr := by subst h; exact bdrew _ _
theorem drewN_drewN (w : World) (a b : Nat) : (w.drewN a).drewN b = w.drewN (a + b) := by
  simp [World.drewN, Nat.add_assoc]
theorem equal_any (q1 q2 : Option Addr) (c1 c2 : Nat) (os1 os2 : List Or) (w : World) (h1 : Osz w q1 os1) (h2 : Osz w q2 os2) (hn1 : os1.length < 9223372036854775808) (hn2 : os2.length < 9223372036854775808) :
    Calls Try.prog 12 #[.slice q1 os1.length c1, .slice q2 os2.length c2] w fun e w' => e = .returned (.bool (decide (os1 = os2))) ∧ ∃ n, w' = w.drewN n := by
  obtain ⟨n, hn⟩ : ∃ n, os1.length = n := ⟨_, rfl⟩
  obtain ⟨m, hm⟩ : ∃ n, os2.length = n := ⟨_, rfl⟩
  have HN := hid hn
  have HM := hid hm
  have H1 := hid h1
  have H2 := hid h2
  rw [hn] at hn1 ⊢
  rw [hm] at hn2 ⊢
  by_cases hnm : n = m
  · subst hnm
    clear hn hm h1 h2 hn2
    go_enter Try.func12, Try.ntmps12
    go_wp2_with fail
    go_loopw [13] (fun iv wr => ∃ i : Nat, i ≤ n ∧ iv = .int .i64 i ∧ Hid (∃ d, wr = w.drewN d) ∧ Hid (os1.take i = os2.take i)) (fun iv _ => n - (intOf iv).toNat)
    case atStart => exact ⟨0, Nat.zero_le _, rfl, hid ⟨0, rfl⟩, hid rfl⟩
    case round =>
      obtain ⟨i, hin, rfl, HB, HT⟩ := hrel
      by_cases hlt : i < n
      · have hi1 : i < os1.length := by rw [HN.out]; exact hlt
        have hi2 : i < os2.length := by rw [HM.out]; exact hlt
        obtain ⟨d, hd⟩ := HB.out
        obtain ⟨g, o, hp, a0, a1, a2, a3, a4, a5, a6⟩ := osz_cells H1.out (drewN_on hd) hi1
        obtain ⟨g2, o2, hp2, b0, b1, b2, b3, b4, b5, b6⟩ := osz_cells H2.out (drewN_on hd) hi2
        subst hp
        subst hp2
        obtain ⟨x, hx⟩ : ∃ x, os1[i] = x := ⟨_, rfl⟩
        obtain ⟨y, hy⟩ : ∃ x, os2[i] = x := ⟨_, rfl⟩
        rw [hx] at a0 a1 a2 a3 a4 a5 a6
        rw [hy] at b0 b1 b2 b3 b4 b5 b6
        have HX := hid hx
        have HY := hid hy
        have i0' : (0 : Int) ≤ (i : Int) := by omega
        have i1 : (i : Int) < (n : Int) := by omega
        clear hx hy hd
        by_cases hxy : x = y
        · have q := fun w => eqO x y w
          have HXY := hid hxy
          rw [decide_eq_true hxy] at q
          clear hxy
          go_wp2_with fail
          go_quiet (fail)
          go_wp2
          go_roundw
          case rel => exact ⟨i + 1, by omega, by go_num, hid (by obtain ⟨d, rfl⟩ := HB.out; exact ⟨_, drewN_drewN _ _ _⟩), hid (by rw [List.take_succ_eq_append_getElem hi1, List.take_succ_eq_append_getElem hi2, HT.out, HX.out, HY.out, HXY.out])⟩
          case measure => simp [intOf]; omega
        · have q := fun w => eqO x y w
          have HXY := hid hxy
          rw [decide_eq_false hxy] at q
          clear hxy
          go_wp2_with fail
          go_quiet (fail)
          go_wp2
          go_ret
          refine ⟨?_, by obtain ⟨d, rfl⟩ := HB.out; exact ⟨_, drewN_drewN _ _ _⟩⟩
          rw [decide_eq_false (fun e => HXY.out (by rw [← HX.out, ← HY.out]; simp only [e]))]
          rfl
      · obtain rfl : i = n := by omega
        go_wp2
        go_ret
        refine ⟨?_, HB.out⟩
        have e := HT.out
        rw [List.take_of_length_le (by rw [HN.out]; exact Nat.le_refl _), List.take_of_length_le (by rw [HM.out]; exact Nat.le_refl _)] at e
        rw [decide_eq_true e]
        rfl
  · have hnm' : ((n : Int) == (m : Int)) = false := by
      have : (n : Int) ≠ (m : Int) := by omega
      simpa using this
    have e : decide (os1 = os2) = false := decide_eq_false (fun e => hnm (by rw [← hn, ← hm, e]))
    rw [e]
    clear hn hm h1 h2 e hnm
    go_enter Try.func12, Try.ntmps12
    go_wp2
    go_ret
    exact ⟨rfl, 0, rfl⟩
theorem sorders_any (q1 q2 : Option Addr) (c1 c2 : Nat) (os1 os2 : List Or) (w : World) (h1 : Osz w q1 os1) (h2 : Osz w q2 os2) (hn1 : os1.length < 9223372036854775808) (hn2 : os2.length < 9223372036854775808) :
    Calls Try.prog 13 #[.slice q1 os1.length c1, .slice q2 os2.length c2] w fun e w' => e = .returned (.bool (decide (os1 = os2))) ∧ ∃ n, w' = w.drewN n := by
  obtain ⟨n, hn⟩ : ∃ n, os1.length = n := ⟨_, rfl⟩
  obtain ⟨m, hm⟩ : ∃ n, os2.length = n := ⟨_, rfl⟩
  have HN := hid hn
  have HM := hid hm
  have H1 := hid h1
  have H2 := hid h2
  rw [hn] at hn1 ⊢
  rw [hm] at hn2 ⊢
  by_cases hnm : n = m
  · subst hnm
    clear hn hm h1 h2 hn2
    go_enter Try.func13, Try.ntmps13
    go_wp2_with fail
    go_loopw [5] (fun iv wr => ∃ i : Nat, i ≤ n ∧ iv = .int .i64 i ∧ Hid (∃ d, wr = w.drewN d) ∧ Hid (os1.take i = os2.take i)) (fun iv _ => n - (intOf iv).toNat)
    case atStart => exact ⟨0, Nat.zero_le _, rfl, hid ⟨0, rfl⟩, hid rfl⟩
    case round =>
      obtain ⟨i, hin, rfl, HB, HT⟩ := hrel
      by_cases hlt : i < n
      · have hi1 : i < os1.length := by rw [HN.out]; exact hlt
        have hi2 : i < os2.length := by rw [HM.out]; exact hlt
        obtain ⟨d, hd⟩ := HB.out
        obtain ⟨g, o, hp, a0, a1, a2, a3, a4, a5, a6⟩ := osz_cells H1.out (drewN_on hd) hi1
        obtain ⟨g2, o2, hp2, b0, b1, b2, b3, b4, b5, b6⟩ := osz_cells H2.out (drewN_on hd) hi2
        subst hp
        subst hp2
        obtain ⟨x, hx⟩ : ∃ x, os1[i] = x := ⟨_, rfl⟩
        obtain ⟨y, hy⟩ : ∃ x, os2[i] = x := ⟨_, rfl⟩
        rw [hx] at a0 a1 a2 a3 a4 a5 a6
        rw [hy] at b0 b1 b2 b3 b4 b5 b6
        have HX := hid hx
        have HY := hid hy
        have i0' : (0 : Int) ≤ (i : Int) := by omega
        have i1 : (i : Int) < (n : Int) := by omega
        clear hx hy hd
        by_cases hxy : x = y
        · have q := fun w => eqO x y w
          have HXY := hid hxy
          rw [decide_eq_true hxy] at q
          clear hxy
          go_wp2_with fail
          go_quiet (fail)
          go_wp2
          go_roundw
          case rel => exact ⟨i + 1, by omega, by go_num, hid (by obtain ⟨d, rfl⟩ := HB.out; exact ⟨_, drewN_drewN _ _ _⟩), hid (by rw [List.take_succ_eq_append_getElem hi1, List.take_succ_eq_append_getElem hi2, HT.out, HX.out, HY.out, HXY.out])⟩
          case measure => simp [intOf]; omega
        · have q := fun w => eqO x y w
          have HXY := hid hxy
          rw [decide_eq_false hxy] at q
          clear hxy
          go_wp2_with fail
          go_quiet (fail)
          go_wp2
          go_ret
          refine ⟨?_, by obtain ⟨d, rfl⟩ := HB.out; exact ⟨_, drewN_drewN _ _ _⟩⟩
          rw [decide_eq_false (fun e => HXY.out (by rw [← HX.out, ← HY.out]; simp only [e]))]
          rfl
      · obtain rfl : i = n := by omega
        go_wp2
        go_ret
        refine ⟨?_, HB.out⟩
        have e := HT.out
        rw [List.take_of_length_le (by rw [HN.out]; exact Nat.le_refl _), List.take_of_length_le (by rw [HM.out]; exact Nat.le_refl _)] at e
        rw [decide_eq_true e]
        rfl
  · have hnm' : ((n : Int) == (m : Int)) = false := by
      have : (n : Int) ≠ (m : Int) := by omega
      simpa using this
    have e : decide (os1 = os2) = false := decide_eq_false (fun e => hnm (by rw [← hn, ← hm, e]))
    rw [e]
    clear hn hm h1 h2 e hnm
    go_enter Try.func13, Try.ntmps13
    go_wp2
    go_ret
    exact ⟨rfl, 0, rfl⟩
/-- what is shown at a price. -/
def shn (p : Int) : Int → List Or → Int
  | s, [] => s
  | s, x :: l => shn p (if x.pr = p then IntKind.u64.wrap (s + x.vi) else s) l
theorem shn_snoc (p : Int) : ∀ (l : List Or) (s : Int) (x : Or), shn p s (l ++ [x]) = if x.pr = p then IntKind.u64.wrap (shn p s l + x.vi) else shn p s l
  | [], s, x => rfl
  | y :: l, s, x => by show shn p _ (l ++ [x]) = _; rw [shn_snoc]; rfl
theorem shown_any (q : Option Addr) (c : Nat) (os : List Or) (p : Int) (w : World) (h : Osz w q os) (hn : os.length < 9223372036854775808) :
    Calls Try.prog 11 #[.slice q os.length c, .int .i64 p] w fun e w' => e = .returned (.int .u64 (shn p 0 os)) ∧ Below w.heap.size w w' := by
  obtain ⟨n, hnn⟩ : ∃ n, os.length = n := ⟨_, rfl⟩
  have HN := hid hnn
  have H := hid h
  rw [hnn] at hn ⊢
  clear hnn h
  go_enter Try.func11, Try.ntmps11
  go_wp2_with fail
  go_loopw [5, 10] (fun sv iv wr => ∃ (i : Nat) (s : Int), i ≤ n ∧ iv = .int .i64 i ∧ sv = .int .u64 s ∧ Hid (shn p 0 (os.take i) = s) ∧ Hid (Below w.heap.size w wr)) (fun _ iv _ => n - (intOf iv).toNat)
  case atStart => exact ⟨0, 0, Nat.zero_le _, rfl, rfl, hid rfl, hid (Below.refl _ _)⟩
  case round =>
    obtain ⟨i, s, hin, rfl, rfl, HS, HB⟩ := hrel
    by_cases hlt : i < n
    · have hi : i < os.length := by rw [HN.out]; exact hlt
      obtain ⟨g, o, hp, a0, a1, a2, a3, a4, a5, a6⟩ := osz_cells H.out HB.out hi
      subst hp
      obtain ⟨x, hx⟩ : ∃ x, os[i] = x := ⟨_, rfl⟩
      rw [hx] at a0 a1 a2 a3 a4 a5 a6
      have HSN := hid (shn_snoc p (os.take i) 0 x)
      rw [← hx, ← List.take_succ_eq_append_getElem hi, hx, HS.out] at HSN
      have i0' : (0 : Int) ≤ (i : Int) := by omega
      have i1 : (i : Int) < (n : Int) := by omega
      clear hx
      by_cases hxp : x.pr = p
      · rw [if_pos hxp] at HSN
        rw [hxp] at a3
        clear hxp
        go_wp2
        go_roundw
        case rel => exact ⟨i + 1, _, by omega, by go_num, rfl, HSN, hid (btr HB.out (ball _ _))⟩
        case measure => simp [intOf]; omega
      · rw [if_neg hxp] at HSN
        have hxp' : (x.pr == p) = false := by simpa using hxp
        clear hxp
        go_wp2
        go_roundw
        case rel => exact ⟨i + 1, _, by omega, by go_num, rfl, HSN, hid (btr HB.out (ball _ _))⟩
        case measure => simp [intOf]; omega
    · obtain rfl : i = n := by omega
      have hs := HS.out
      rw [List.take_of_length_le (by rw [HN.out]; exact Nat.le_refl _)] at hs
      have HH := hid hs
      clear hs
      go_wp2
      go_ret
      refine ⟨?_, HB.out⟩
      rw [HH.out]
      rfl
end Go.Proofs.Ytopfgoifmcjcaaa
