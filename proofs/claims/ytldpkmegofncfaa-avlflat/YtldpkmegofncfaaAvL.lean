/-
  AvlFlat's walk. Written by mkl.py.
-/
import Derived.Test.YtldpkmegofncfaaAvK
namespace Go.Proofs.Ytldpkmegofncfaa
open Go.RowKit Go.Deep
set_option linter.unusedVariables false
set_option linter.unusedSimpArgs false
theorem av_new (w : World) : Av (w.alloc (.cells #[.pointer none] 32)) w.heap.size .nil := ⟨none, heap_alloc_new _ _, rfl⟩
theorem gd_nil : Gd .nil := ⟨T.ok_nil, by decide⟩
theorem one_tree : T.put 1 1 .nil = .nd 1 1 .nil .nil := rfl
/-- what stands between two steps: a tree in a block of our own. -/
structure Fl (w : World) (m : Nat) (i : Nat) (wr : World) : Prop where
  tr : ∃ t, Av wr w.heap.size t ∧ T.ok t ∧ t.n ≤ i
  im : i ≤ m
  bel : Below w.heap.size w wr
theorem gd_of {t : T} {m i : Nat} (h : T.ok t) (h1 : t.n ≤ i) (h2 : i ≤ m) (h3 : m ≤ 2000) : Gd t := ⟨h, by omega⟩

set_option maxHeartbeats 8000000 in
set_option maxRecDepth 100000 in
theorem flat_walkP (n step drop : Int) (m : Nat) (w : World) (hd : drop < 9223372036854775808) (hs : ¬ n.tmod 2001 < 0) (hm : n.tmod 2001 = m) (hm2 : m ≤ 2000) :
    Calls Try.prog 6 #[.int .i64 n, .int .i64 step, .int .i64 drop] w fun e w' => e = .returned (.bool true) ∧ Below w.heap.size w w' := by
  have HM := hid hm2
  have HD := hid hd
  have m1 : (m : Int) ≤ 2000 := by omega
  have tw : IntKind.i64.wrap (n.tmod 2001) = n.tmod 2001 := by simp [IntKind.wrap, IntKind.bits, IntKind.signed]; omega
  obtain ⟨x, hx⟩ : ∃ x, n.tmod 2001 = x := ⟨_, rfl⟩
  rw [hx] at tw hs hm

  have NEW := hid (av_new w)
  clear hm2 hd
  go_enter Try.func6, Try.ntmps6
  go_wp2_with fail
  go_loopw [8, 9] (fun kv iv wr => ∃ (i : Nat) (k : Int), kv = .int .i64 k ∧ iv = .int .i64 i ∧ Hid (Fl w m i wr)) (fun _ iv _ => m - (intOf iv).toNat)
  case atStart => exact ⟨0, 0, rfl, rfl, ⟨⟨.nil, NEW.out, T.ok_nil, by simp [T.n]⟩, Nat.zero_le _, ball _ _⟩⟩
  case round =>
    obtain ⟨i, k, rfl, rfl, HF⟩ := hrel
    clear NEW
    by_cases hi : i = m
    · subst hi
      have HB := hid HF.out.bel
      have d1 : decide ((i : Int) < (i : Int)) = false := by simp
      by_cases hdp : 0 < drop
      · have HDP := hid hdp
        go_wp2_with fail
        go_loopw [10, 11, 12] (fun iv _ _ wr => ∃ (j : Int), iv = .int .i64 j ∧ 0 ≤ j ∧ Hid (j = 0 ∨ drop ≤ j) ∧ Hid (Fl w i i wr)) (fun iv _ _ _ => i - (intOf iv).toNat)
        case atStart => exact ⟨0, rfl, by omega, Or.inl rfl, HF⟩
        case round =>
          obtain ⟨j, rfl, hj0, HJ, HG⟩ := hrel
          clear HF HB
          have HB := hid HG.out.bel
          by_cases hj : j < i
          · obtain ⟨t, ha, hok, hn⟩ := HG.out.tr
            have gt := gd_of hok hn (Nat.le_refl _) HM.out
            have AT := hid (at_any ha gt.lim 0 (by decide))
            cases hnt : t.nth 0 with
            | none =>
              rw [hnt] at AT
              simp only [oV] at AT
              clear ha hok hn gt hnt
              have PT := hid (put_any (av_new wr) gd_nil 1 1)
              have GH := hid (show ∀ w', Av w' wr.heap.size (T.put 1 1 .nil) → Calls Try.prog 22 #[.pointer (some ⟨wr.heap.size, 0, none⟩)] w' fun e w2 => e = .returned (.int .i64 1) ∧ w2 = w' from fun w' ha => height_any ha)
              have GN := hid (show ∀ w', Av w' wr.heap.size (T.put 1 1 .nil) → Calls Try.prog 13 #[.pointer (some ⟨wr.heap.size, 0, none⟩)] w' fun e w2 => e = .returned (.int .i64 1) ∧ w2 = w' from fun w' ha => len_any ha)
              have HBX := hid ((HB.out).trans ((ball wr (.cells #[.pointer none] 32)).mono (HB.out).size))
              go_wp2_with (first | (go_at_call 17; with_reducible refine (AT.out).mono ?_; rintro e w5 ⟨rfl, rfl⟩) | (go_at_call 11; with_reducible refine (PT.out).mono ?_; rintro e w7 ⟨rfl, hav7, hko7⟩; have HAV7 := hid hav7; have HBZ := hid (Ko.below HBX.out hko7 (HB.out).size HBX.out.size); clear hav7 hko7) | (go_at_call 22; with_reducible refine (GH.out _ HAV7.out).mono ?_; rintro e w8 ⟨rfl, rfl⟩) | (go_at_call 13; with_reducible refine (GN.out _ HAV7.out).mono ?_; rintro e w8 ⟨rfl, rfl⟩))
              go_ret
              exact ⟨rfl, HBZ.out⟩
            | some x0 =>
              rw [hnt] at AT
              simp only [oV] at AT
              have DR := hid (show ∀ key, Calls Try.prog 12 #[.pointer (some ⟨w.heap.size, 0, none⟩), .int .i64 key] wr fun e w' => ∃ a b, e = .returned (.tuple #[.int .i64 a, .bool b]) ∧ Av w' w.heap.size (t.drop key) ∧ Below w.heap.size w w' from by
                intro key
                refine (drop_any ha gt key).mono ?_
                rintro e w' ⟨rfl, h1, h2⟩
                obtain ⟨a, b, he⟩ := oV_eq (t.get key)
                exact ⟨a, b, by rw [he], h1, Ko.below HB.out h2 (Nat.le_refl _) HB.out.size⟩)
              have GL := hid (show ∀ key w', Av w' w.heap.size (t.drop key) → Calls Try.prog 13 #[.pointer (some ⟨w.heap.size, 0, none⟩)] w' fun e w2 => e = .returned (.int .i64 (t.drop key).n) ∧ w2 = w' from fun key w' ha => len_any ha)
              have GH := hid (show ∀ key w', Av w' w.heap.size (t.drop key) → Calls Try.prog 22 #[.pointer (some ⟨w.heap.size, 0, none⟩)] w' fun e w2 => e = .returned (.int .i64 (t.drop key).h) ∧ w2 = w' from fun key w' ha => height_any ha)
              have FA := hid (show ∀ key w', Calls Try.prog 21 #[.int .i64 (t.drop key).n, .int .i64 (t.drop key).h] w' fun e w2 => e = .returned (.bool true) ∧ w2 = w' from fun key w' => flat_tree (gd_of (hok.drop key) (Nat.le_trans (T.n_drop_le hok key) hn) (Nat.le_refl _) HM.out) w')
              have HOK := hid hok
              have HNN := hid hn
              have hw : IntKind.i64.wrap (j + drop) = j + drop := by
                have h1 := HD.out
                have h2 := HJ.out
                have h3 := HM.out
                have h4 := HDP.out
                simp [IntKind.wrap, IntKind.bits, IntKind.signed]; omega
              have HJ2 := hid (show 0 ≤ j + drop ∧ (j + drop = 0 ∨ drop ≤ j + drop) from by have h4 := HDP.out; omega)
              have HJ3 := hid (show i - (j + drop).toNat < i - j.toNat from by have h4 := HDP.out; omega)
              clear ha hok hn gt hnt
              go_wp2_with (first | (go_at_call 17; with_reducible refine (AT.out).mono ?_; rintro e w5 ⟨rfl, rfl⟩; clear AT; refine Hid.out ?_))
              generalize hkey : IntKind.i64.wrap (x0 + IntKind.i64.wrap (j * step)) = key
              refine hid ?_
              go_wp2_with (first | (go_at_call 12; refine (DR.out _).mono ?_; rintro e w6 ⟨a6, b6, rfl, hav6, hb6⟩; clear DR; have HAV6 := hid hav6; have HB6 := hid hb6; clear hav6 hb6) | (go_at_call 13; with_reducible refine (GL.out _ _ HAV6.out).mono ?_; rintro e w8 ⟨rfl, rfl⟩) | (go_at_call 22; with_reducible refine (GH.out _ _ HAV6.out).mono ?_; rintro e w8 ⟨rfl, rfl⟩) | (go_at_call 21; with_reducible refine (FA.out _ _).mono ?_; rintro e w8 ⟨rfl, rfl⟩))
              go_roundw
              case rel => exact ⟨j + drop, rfl, HJ2.out.1, hid HJ2.out.2, ⟨⟨_, HAV6.out, HOK.out.drop _, Nat.le_trans (T.n_drop_le HOK.out _) HNN.out⟩, Nat.le_refl _, HB6.out⟩⟩
              case measure => simpa [intOf] using HJ3.out
          · have d2 : decide (j < (i : Int)) = false := by simpa using hj
            clear hj
            have PT := hid (put_any (av_new wr) gd_nil 1 1)
            have GH := hid (show ∀ w', Av w' wr.heap.size (T.put 1 1 .nil) → Calls Try.prog 22 #[.pointer (some ⟨wr.heap.size, 0, none⟩)] w' fun e w2 => e = .returned (.int .i64 1) ∧ w2 = w' from fun w' ha => height_any ha)
            have GN := hid (show ∀ w', Av w' wr.heap.size (T.put 1 1 .nil) → Calls Try.prog 13 #[.pointer (some ⟨wr.heap.size, 0, none⟩)] w' fun e w2 => e = .returned (.int .i64 1) ∧ w2 = w' from fun w' ha => len_any ha)
            have HBX := hid ((HB.out).trans ((ball wr (.cells #[.pointer none] 32)).mono (HB.out).size))
            go_wp2_with (first | (go_at_call 11; with_reducible refine (PT.out).mono ?_; rintro e w7 ⟨rfl, hav7, hko7⟩; have HAV7 := hid hav7; have HBZ := hid (Ko.below HBX.out hko7 (HB.out).size HBX.out.size); clear hav7 hko7) | (go_at_call 22; with_reducible refine (GH.out _ HAV7.out).mono ?_; rintro e w8 ⟨rfl, rfl⟩) | (go_at_call 13; with_reducible refine (GN.out _ HAV7.out).mono ?_; rintro e w8 ⟨rfl, rfl⟩))
            go_ret
            exact ⟨rfl, HBZ.out⟩
      · have d3 : decide (0 < drop) = false := by simpa using hdp
        clear hdp
        have PT := hid (put_any (av_new wr) gd_nil 1 1)
        have GH := hid (show ∀ w', Av w' wr.heap.size (T.put 1 1 .nil) → Calls Try.prog 22 #[.pointer (some ⟨wr.heap.size, 0, none⟩)] w' fun e w2 => e = .returned (.int .i64 1) ∧ w2 = w' from fun w' ha => height_any ha)
        have GN := hid (show ∀ w', Av w' wr.heap.size (T.put 1 1 .nil) → Calls Try.prog 13 #[.pointer (some ⟨wr.heap.size, 0, none⟩)] w' fun e w2 => e = .returned (.int .i64 1) ∧ w2 = w' from fun w' ha => len_any ha)
        have HBX := hid ((HB.out).trans ((ball wr (.cells #[.pointer none] 32)).mono (HB.out).size))
        go_wp2_with (first | (go_at_call 11; with_reducible refine (PT.out).mono ?_; rintro e w7 ⟨rfl, hav7, hko7⟩; have HAV7 := hid hav7; have HBZ := hid (Ko.below HBX.out hko7 (HB.out).size HBX.out.size); clear hav7 hko7) | (go_at_call 22; with_reducible refine (GH.out _ HAV7.out).mono ?_; rintro e w8 ⟨rfl, rfl⟩) | (go_at_call 13; with_reducible refine (GN.out _ HAV7.out).mono ?_; rintro e w8 ⟨rfl, rfl⟩))
        go_ret
        exact ⟨rfl, HBZ.out⟩
    · have him := HF.out.im
      have hlt : (i : Int) < (m : Int) := by omega
      have hw : IntKind.i64.wrap ((i : Int) + 1) = ((i + 1 : Nat) : Int) := by have := HM.out; simp [IntKind.wrap, IntKind.bits, IntKind.signed]; omega
      have HI := hid (show i + 1 ≤ m ∧ i < m by omega)
      obtain ⟨t, ha, hok, hn⟩ := HF.out.tr
      have HB := hid HF.out.bel
      have gt := gd_of hok hn him HM.out
      have PT := hid (show Calls Try.prog 11 #[.pointer (some ⟨w.heap.size, 0, none⟩), .int .i64 k, .int .i64 i] wr fun e w' => ∃ a b, e = .returned (.tuple #[.int .i64 a, .bool b]) ∧ Av w' w.heap.size (t.put k i) ∧ Below w.heap.size w w' from by
        refine (put_any ha gt k i).mono ?_
        rintro e w' ⟨rfl, h1, h2⟩
        obtain ⟨a, b, he⟩ := oV_eq (t.get k)
        exact ⟨a, b, by rw [he], h1, Ko.below HB.out h2 (Nat.le_refl _) HB.out.size⟩)
      have GL := hid (show ∀ w', Av w' w.heap.size (t.put k i) → Calls Try.prog 13 #[.pointer (some ⟨w.heap.size, 0, none⟩)] w' fun e w2 => e = .returned (.int .i64 (t.put k i).n) ∧ w2 = w' from fun w' ha => len_any ha)
      have GH := hid (show ∀ w', Av w' w.heap.size (t.put k i) → Calls Try.prog 22 #[.pointer (some ⟨w.heap.size, 0, none⟩)] w' fun e w2 => e = .returned (.int .i64 (t.put k i).h) ∧ w2 = w' from fun w' ha => height_any ha)
      have hn1 := T.n_put_le hok.srt k i
      have FA := hid (show ∀ w', Calls Try.prog 21 #[.int .i64 (t.put k i).n, .int .i64 (t.put k i).h] w' fun e w2 => e = .returned (.bool true) ∧ w2 = w' from fun w' => flat_tree (gd_of (hok.put k i) (show _ ≤ i + 1 by omega) HI.out.1 HM.out) w')
      have HN := hid (show ∀ wr, Av wr w.heap.size (t.put k i) → Below w.heap.size w wr → Fl w m (i + 1) wr from fun wr h1 h2 => ⟨⟨_, h1, hok.put k i, by omega⟩, HI.out.1, h2⟩)
      have HMS := hid (show m - (i + 1) < m - i by omega)
      generalize hj : i + 1 = j at hw HN HMS
      generalize t.put k i = t2 at *
      obtain ⟨tn, htn⟩ : ∃ x, t2.n = x := ⟨_, rfl⟩
      obtain ⟨th, hth⟩ : ∃ x, t2.h = x := ⟨_, rfl⟩
      rw [htn] at GL FA
      rw [hth] at GH FA
      clear ha hok hn gt him hi htn hth hj hn1
      go_wp2_with (first | (go_at_call 11; with_reducible refine (PT.out).mono ?_; rintro e w6 ⟨a6, b6, rfl, hav6, hb6⟩; clear PT; have HAV6 := hid hav6; have HB6 := hid hb6; clear hav6 hb6) | (go_at_call 13; with_reducible refine (GL.out _ HAV6.out).mono ?_; rintro e w8 ⟨rfl, rfl⟩) | (go_at_call 22; with_reducible refine (GH.out _ HAV6.out).mono ?_; rintro e w8 ⟨rfl, rfl⟩) | (go_at_call 21; with_reducible refine (FA.out _).mono ?_; rintro e w8 ⟨rfl, rfl⟩))
      go_roundw
      case rel => exact ⟨j, _, rfl, rfl, HN.out _ HAV6.out HB6.out⟩
      case measure => simpa [intOf] using HMS.out

set_option maxHeartbeats 8000000 in
set_option maxRecDepth 100000 in
theorem flat_walkN (n step drop : Int) (m : Nat) (w : World) (hd : drop < 9223372036854775808) (hs : n.tmod 2001 < 0) (hm : - n.tmod 2001 = m) (hm2 : m ≤ 2000) :
    Calls Try.prog 6 #[.int .i64 n, .int .i64 step, .int .i64 drop] w fun e w' => e = .returned (.bool true) ∧ Below w.heap.size w w' := by
  have HM := hid hm2
  have HD := hid hd
  have m1 : (m : Int) ≤ 2000 := by omega
  have tw : IntKind.i64.wrap (n.tmod 2001) = n.tmod 2001 := by simp [IntKind.wrap, IntKind.bits, IntKind.signed]; omega
  obtain ⟨x, hx⟩ : ∃ x, n.tmod 2001 = x := ⟨_, rfl⟩
  rw [hx] at tw hs hm

  have NEW := hid (av_new w)
  clear hm2 hd
  go_enter Try.func6, Try.ntmps6
  go_wp2_with fail
  go_loopw [8, 9] (fun kv iv wr => ∃ (i : Nat) (k : Int), kv = .int .i64 k ∧ iv = .int .i64 i ∧ Hid (Fl w m i wr)) (fun _ iv _ => m - (intOf iv).toNat)
  case atStart => exact ⟨0, 0, rfl, rfl, ⟨⟨.nil, NEW.out, T.ok_nil, by simp [T.n]⟩, Nat.zero_le _, ball _ _⟩⟩
  case round =>
    obtain ⟨i, k, rfl, rfl, HF⟩ := hrel
    clear NEW
    by_cases hi : i = m
    · subst hi
      have HB := hid HF.out.bel
      have d1 : decide ((i : Int) < (i : Int)) = false := by simp
      by_cases hdp : 0 < drop
      · have HDP := hid hdp
        go_wp2_with fail
        go_loopw [10, 11, 12] (fun iv _ _ wr => ∃ (j : Int), iv = .int .i64 j ∧ 0 ≤ j ∧ Hid (j = 0 ∨ drop ≤ j) ∧ Hid (Fl w i i wr)) (fun iv _ _ _ => i - (intOf iv).toNat)
        case atStart => exact ⟨0, rfl, by omega, Or.inl rfl, HF⟩
        case round =>
          obtain ⟨j, rfl, hj0, HJ, HG⟩ := hrel
          clear HF HB
          have HB := hid HG.out.bel
          by_cases hj : j < i
          · obtain ⟨t, ha, hok, hn⟩ := HG.out.tr
            have gt := gd_of hok hn (Nat.le_refl _) HM.out
            have AT := hid (at_any ha gt.lim 0 (by decide))
            cases hnt : t.nth 0 with
            | none =>
              rw [hnt] at AT
              simp only [oV] at AT
              clear ha hok hn gt hnt
              have PT := hid (put_any (av_new wr) gd_nil 1 1)
              have GH := hid (show ∀ w', Av w' wr.heap.size (T.put 1 1 .nil) → Calls Try.prog 22 #[.pointer (some ⟨wr.heap.size, 0, none⟩)] w' fun e w2 => e = .returned (.int .i64 1) ∧ w2 = w' from fun w' ha => height_any ha)
              have GN := hid (show ∀ w', Av w' wr.heap.size (T.put 1 1 .nil) → Calls Try.prog 13 #[.pointer (some ⟨wr.heap.size, 0, none⟩)] w' fun e w2 => e = .returned (.int .i64 1) ∧ w2 = w' from fun w' ha => len_any ha)
              have HBX := hid ((HB.out).trans ((ball wr (.cells #[.pointer none] 32)).mono (HB.out).size))
              go_wp2_with (first | (go_at_call 17; with_reducible refine (AT.out).mono ?_; rintro e w5 ⟨rfl, rfl⟩) | (go_at_call 11; with_reducible refine (PT.out).mono ?_; rintro e w7 ⟨rfl, hav7, hko7⟩; have HAV7 := hid hav7; have HBZ := hid (Ko.below HBX.out hko7 (HB.out).size HBX.out.size); clear hav7 hko7) | (go_at_call 22; with_reducible refine (GH.out _ HAV7.out).mono ?_; rintro e w8 ⟨rfl, rfl⟩) | (go_at_call 13; with_reducible refine (GN.out _ HAV7.out).mono ?_; rintro e w8 ⟨rfl, rfl⟩))
              go_ret
              exact ⟨rfl, HBZ.out⟩
            | some x0 =>
              rw [hnt] at AT
              simp only [oV] at AT
              have DR := hid (show ∀ key, Calls Try.prog 12 #[.pointer (some ⟨w.heap.size, 0, none⟩), .int .i64 key] wr fun e w' => ∃ a b, e = .returned (.tuple #[.int .i64 a, .bool b]) ∧ Av w' w.heap.size (t.drop key) ∧ Below w.heap.size w w' from by
                intro key
                refine (drop_any ha gt key).mono ?_
                rintro e w' ⟨rfl, h1, h2⟩
                obtain ⟨a, b, he⟩ := oV_eq (t.get key)
                exact ⟨a, b, by rw [he], h1, Ko.below HB.out h2 (Nat.le_refl _) HB.out.size⟩)
              have GL := hid (show ∀ key w', Av w' w.heap.size (t.drop key) → Calls Try.prog 13 #[.pointer (some ⟨w.heap.size, 0, none⟩)] w' fun e w2 => e = .returned (.int .i64 (t.drop key).n) ∧ w2 = w' from fun key w' ha => len_any ha)
              have GH := hid (show ∀ key w', Av w' w.heap.size (t.drop key) → Calls Try.prog 22 #[.pointer (some ⟨w.heap.size, 0, none⟩)] w' fun e w2 => e = .returned (.int .i64 (t.drop key).h) ∧ w2 = w' from fun key w' ha => height_any ha)
              have FA := hid (show ∀ key w', Calls Try.prog 21 #[.int .i64 (t.drop key).n, .int .i64 (t.drop key).h] w' fun e w2 => e = .returned (.bool true) ∧ w2 = w' from fun key w' => flat_tree (gd_of (hok.drop key) (Nat.le_trans (T.n_drop_le hok key) hn) (Nat.le_refl _) HM.out) w')
              have HOK := hid hok
              have HNN := hid hn
              have hw : IntKind.i64.wrap (j + drop) = j + drop := by
                have h1 := HD.out
                have h2 := HJ.out
                have h3 := HM.out
                have h4 := HDP.out
                simp [IntKind.wrap, IntKind.bits, IntKind.signed]; omega
              have HJ2 := hid (show 0 ≤ j + drop ∧ (j + drop = 0 ∨ drop ≤ j + drop) from by have h4 := HDP.out; omega)
              have HJ3 := hid (show i - (j + drop).toNat < i - j.toNat from by have h4 := HDP.out; omega)
              clear ha hok hn gt hnt
              go_wp2_with (first | (go_at_call 17; with_reducible refine (AT.out).mono ?_; rintro e w5 ⟨rfl, rfl⟩; clear AT; refine Hid.out ?_))
              generalize hkey : IntKind.i64.wrap (x0 + IntKind.i64.wrap (j * step)) = key
              refine hid ?_
              go_wp2_with (first | (go_at_call 12; refine (DR.out _).mono ?_; rintro e w6 ⟨a6, b6, rfl, hav6, hb6⟩; clear DR; have HAV6 := hid hav6; have HB6 := hid hb6; clear hav6 hb6) | (go_at_call 13; with_reducible refine (GL.out _ _ HAV6.out).mono ?_; rintro e w8 ⟨rfl, rfl⟩) | (go_at_call 22; with_reducible refine (GH.out _ _ HAV6.out).mono ?_; rintro e w8 ⟨rfl, rfl⟩) | (go_at_call 21; with_reducible refine (FA.out _ _).mono ?_; rintro e w8 ⟨rfl, rfl⟩))
              go_roundw
              case rel => exact ⟨j + drop, rfl, HJ2.out.1, hid HJ2.out.2, ⟨⟨_, HAV6.out, HOK.out.drop _, Nat.le_trans (T.n_drop_le HOK.out _) HNN.out⟩, Nat.le_refl _, HB6.out⟩⟩
              case measure => simpa [intOf] using HJ3.out
          · have d2 : decide (j < (i : Int)) = false := by simpa using hj
            clear hj
            have PT := hid (put_any (av_new wr) gd_nil 1 1)
            have GH := hid (show ∀ w', Av w' wr.heap.size (T.put 1 1 .nil) → Calls Try.prog 22 #[.pointer (some ⟨wr.heap.size, 0, none⟩)] w' fun e w2 => e = .returned (.int .i64 1) ∧ w2 = w' from fun w' ha => height_any ha)
            have GN := hid (show ∀ w', Av w' wr.heap.size (T.put 1 1 .nil) → Calls Try.prog 13 #[.pointer (some ⟨wr.heap.size, 0, none⟩)] w' fun e w2 => e = .returned (.int .i64 1) ∧ w2 = w' from fun w' ha => len_any ha)
            have HBX := hid ((HB.out).trans ((ball wr (.cells #[.pointer none] 32)).mono (HB.out).size))
            go_wp2_with (first | (go_at_call 11; with_reducible refine (PT.out).mono ?_; rintro e w7 ⟨rfl, hav7, hko7⟩; have HAV7 := hid hav7; have HBZ := hid (Ko.below HBX.out hko7 (HB.out).size HBX.out.size); clear hav7 hko7) | (go_at_call 22; with_reducible refine (GH.out _ HAV7.out).mono ?_; rintro e w8 ⟨rfl, rfl⟩) | (go_at_call 13; with_reducible refine (GN.out _ HAV7.out).mono ?_; rintro e w8 ⟨rfl, rfl⟩))
            go_ret
            exact ⟨rfl, HBZ.out⟩
      · have d3 : decide (0 < drop) = false := by simpa using hdp
        clear hdp
        have PT := hid (put_any (av_new wr) gd_nil 1 1)
        have GH := hid (show ∀ w', Av w' wr.heap.size (T.put 1 1 .nil) → Calls Try.prog 22 #[.pointer (some ⟨wr.heap.size, 0, none⟩)] w' fun e w2 => e = .returned (.int .i64 1) ∧ w2 = w' from fun w' ha => height_any ha)
        have GN := hid (show ∀ w', Av w' wr.heap.size (T.put 1 1 .nil) → Calls Try.prog 13 #[.pointer (some ⟨wr.heap.size, 0, none⟩)] w' fun e w2 => e = .returned (.int .i64 1) ∧ w2 = w' from fun w' ha => len_any ha)
        have HBX := hid ((HB.out).trans ((ball wr (.cells #[.pointer none] 32)).mono (HB.out).size))
        go_wp2_with (first | (go_at_call 11; with_reducible refine (PT.out).mono ?_; rintro e w7 ⟨rfl, hav7, hko7⟩; have HAV7 := hid hav7; have HBZ := hid (Ko.below HBX.out hko7 (HB.out).size HBX.out.size); clear hav7 hko7) | (go_at_call 22; with_reducible refine (GH.out _ HAV7.out).mono ?_; rintro e w8 ⟨rfl, rfl⟩) | (go_at_call 13; with_reducible refine (GN.out _ HAV7.out).mono ?_; rintro e w8 ⟨rfl, rfl⟩))
        go_ret
        exact ⟨rfl, HBZ.out⟩
    · have him := HF.out.im
      have hlt : (i : Int) < (m : Int) := by omega
      have hw : IntKind.i64.wrap ((i : Int) + 1) = ((i + 1 : Nat) : Int) := by have := HM.out; simp [IntKind.wrap, IntKind.bits, IntKind.signed]; omega
      have HI := hid (show i + 1 ≤ m ∧ i < m by omega)
      obtain ⟨t, ha, hok, hn⟩ := HF.out.tr
      have HB := hid HF.out.bel
      have gt := gd_of hok hn him HM.out
      have PT := hid (show Calls Try.prog 11 #[.pointer (some ⟨w.heap.size, 0, none⟩), .int .i64 k, .int .i64 i] wr fun e w' => ∃ a b, e = .returned (.tuple #[.int .i64 a, .bool b]) ∧ Av w' w.heap.size (t.put k i) ∧ Below w.heap.size w w' from by
        refine (put_any ha gt k i).mono ?_
        rintro e w' ⟨rfl, h1, h2⟩
        obtain ⟨a, b, he⟩ := oV_eq (t.get k)
        exact ⟨a, b, by rw [he], h1, Ko.below HB.out h2 (Nat.le_refl _) HB.out.size⟩)
      have GL := hid (show ∀ w', Av w' w.heap.size (t.put k i) → Calls Try.prog 13 #[.pointer (some ⟨w.heap.size, 0, none⟩)] w' fun e w2 => e = .returned (.int .i64 (t.put k i).n) ∧ w2 = w' from fun w' ha => len_any ha)
      have GH := hid (show ∀ w', Av w' w.heap.size (t.put k i) → Calls Try.prog 22 #[.pointer (some ⟨w.heap.size, 0, none⟩)] w' fun e w2 => e = .returned (.int .i64 (t.put k i).h) ∧ w2 = w' from fun w' ha => height_any ha)
      have hn1 := T.n_put_le hok.srt k i
      have FA := hid (show ∀ w', Calls Try.prog 21 #[.int .i64 (t.put k i).n, .int .i64 (t.put k i).h] w' fun e w2 => e = .returned (.bool true) ∧ w2 = w' from fun w' => flat_tree (gd_of (hok.put k i) (show _ ≤ i + 1 by omega) HI.out.1 HM.out) w')
      have HN := hid (show ∀ wr, Av wr w.heap.size (t.put k i) → Below w.heap.size w wr → Fl w m (i + 1) wr from fun wr h1 h2 => ⟨⟨_, h1, hok.put k i, by omega⟩, HI.out.1, h2⟩)
      have HMS := hid (show m - (i + 1) < m - i by omega)
      generalize hj : i + 1 = j at hw HN HMS
      generalize t.put k i = t2 at *
      obtain ⟨tn, htn⟩ : ∃ x, t2.n = x := ⟨_, rfl⟩
      obtain ⟨th, hth⟩ : ∃ x, t2.h = x := ⟨_, rfl⟩
      rw [htn] at GL FA
      rw [hth] at GH FA
      clear ha hok hn gt him hi htn hth hj hn1
      go_wp2_with (first | (go_at_call 11; with_reducible refine (PT.out).mono ?_; rintro e w6 ⟨a6, b6, rfl, hav6, hb6⟩; clear PT; have HAV6 := hid hav6; have HB6 := hid hb6; clear hav6 hb6) | (go_at_call 13; with_reducible refine (GL.out _ HAV6.out).mono ?_; rintro e w8 ⟨rfl, rfl⟩) | (go_at_call 22; with_reducible refine (GH.out _ HAV6.out).mono ?_; rintro e w8 ⟨rfl, rfl⟩) | (go_at_call 21; with_reducible refine (FA.out _).mono ?_; rintro e w8 ⟨rfl, rfl⟩))
      go_roundw
      case rel => exact ⟨j, _, rfl, rfl, HN.out _ HAV6.out HB6.out⟩
      case measure => simpa [intOf] using HMS.out
end Go.Proofs.Ytldpkmegofncfaa
