/-
  AvlNeighbours' walk.
-/
import Derived.Test.YtldpkmegofncfaaAvN
import Derived.Test.YtldpkmegofncfaaAvO
namespace Go.Proofs.Ytldpkmegofncfaa
open Go.RowKit Go.Deep
set_option linter.unusedVariables false
set_option linter.unusedSimpArgs false
/-- a tree of our own, of at most so many keys. -/
structure Tn (w : World) (m : Nat) (wr : World) : Prop where
  tr : ∃ t, Av wr w.heap.size t ∧ T.ok t ∧ t.n ≤ m
  bel : Below w.heap.size w wr
/-- a known tree of our own. -/
structure Tk (w : World) (t : T) (wr : World) : Prop where
  av : Av wr w.heap.size t
  bel : Below w.heap.size w wr
theorem Tk.step {w : World} {t : T} {wr w' : World} (h : Tk w t wr) (hb : Below wr.heap.size wr w') : Tk w t w' := ⟨h.av.on hb, btr h.bel hb⟩
namespace T
/-- key number n. -/
def ky (t : T) (n : Nat) : Int := t.ks.getD n 0
theorem ky_get {t : T} {n : Nat} (h : n < t.ks.length) : t.ks[n]? = some (t.ky n) := by
  unfold ky; rw [List.getElem?_eq_getElem h]; simp [List.getD, h]
theorem ky_at {t : T} {n : Nat} (h : n < t.ks.length) : t.ks[n] = t.ky n := by
  unfold ky; simp [List.getD, h]
theorem nth_ky {t : T} {n : Nat} (h : n < t.ks.length) : t.nth (n : Int) = some (t.ky n) := by
  rw [nth_ks, if_pos (by omega), show ((n : Int)).toNat = n by omega, ky_get h]
theorem nth_end (t : T) : t.nth (t.ks.length : Int) = none := by
  rw [nth_ks, if_pos (by omega), show ((t.ks.length : Int)).toNat = t.ks.length by omega]; simp
theorem rk_ky {t : T} (h : t.ris) {n : Nat} (hn : n < t.ks.length) : t.rk (t.ky n) = n := by
  rw [rk_lo h, ← ky_at hn, lo_at h hn]; simp; omega
theorem abv_ky {t : T} (h : t.ris) {n : Nat} (hn : n < t.ks.length) : t.abv (t.ky n) none = t.ks[n + 1]? := by
  rw [abv_hi h, ← ky_at hn, hi_at h hn]; simp
theorem blw_ky {t : T} (h : t.ris) {n : Nat} (hn : n + 1 < t.ks.length) : t.blw (t.ky (n + 1)) none = some (t.ky n) := by
  rw [blw_lo h, ← ky_at hn, lo_at h hn]
  rw [List.getLast?_eq_getElem?, List.length_take, Nat.min_eq_left (by omega)]
  simp only [Nat.add_sub_cancel, Option.or_none]
  rw [List.getElem?_take_of_lt (by omega), ky_get (by omega)]
theorem blw_ky0 {t : T} (h : t.ris) (hn : 0 < t.ks.length) : t.blw (t.ky 0) none = none := by
  rw [blw_lo h, ← ky_at hn, lo_at h hn]; simp
theorem ky_lt {t : T} (h : t.ris) {n : Nat} (hn : n + 1 < t.ks.length) : t.ky n < t.ky (n + 1) := by
  rw [← ky_at (show n < t.ks.length by omega), ← ky_at hn]
  exact ks_lt h (by omega) hn
end T
set_option maxHeartbeats 8000000 in
set_option maxRecDepth 100000 in
theorem near_walk (q1 : Option Addr) (cap1 : Nat) (keys : List Int) (q2 : Option Addr) (cap2 : Nat) (drops : List Int) (w : World) (hv1 : Vs w q1 keys) (hv2 : Vs w q2 drops) (hl : keys.length + drops.length ≤ 1048576) :
    Calls Try.prog 5 #[.slice q1 keys.length cap1, .slice q2 drops.length cap2] w fun e w' => e = .returned (.bool true) ∧ Below w.heap.size w w' := by
  have NEW := hid (av_new w)
  have HL := hid hl
  have HV1 := hid hv1
  have HV2 := hid hv2
  obtain ⟨n1, hn1⟩ : ∃ n, keys.length = n := ⟨_, rfl⟩
  obtain ⟨n2, hn2⟩ : ∃ n, drops.length = n := ⟨_, rfl⟩
  rw [hn1, hn2] at HL hl ⊢
  have HN1 := hid hn1
  have HN2 := hid hn2
  have b1 : (n1 : Int) ≤ 1048576 := by omega
  have b2 : (n2 : Int) ≤ 1048576 := by omega
  clear hl hv1 hv2 hn1 hn2
  go_enter Try.func5, Try.ntmps5
  go_wp2_with fail
  go_loopw [6] (fun iv wr => ∃ i : Nat, i ≤ n1 ∧ iv = .int .i64 i ∧ Hid (Tn w i wr)) (fun iv _ => n1 - (intOf iv).toNat)
  case atStart => exact ⟨0, Nat.zero_le _, rfl, ⟨⟨.nil, NEW.out, T.ok_nil, by simp [T.n]⟩, ball _ _⟩⟩
  case round =>
    obtain ⟨i, hi, rfl, HF⟩ := hrel
    clear NEW
    by_cases him : i = n1
    · subst him
      have d1 : decide ((i : Int) < (i : Int)) = false := by simp
      clear hi
      go_wp2_with fail
      go_loopw [7] (fun iv wr => ∃ j : Nat, j ≤ n2 ∧ iv = .int .i64 j ∧ Hid (Tn w i wr)) (fun iv _ => n2 - (intOf iv).toNat)
      case atStart => exact ⟨0, Nat.zero_le _, rfl, HF⟩
      case round =>
        obtain ⟨j, hj, rfl, HG⟩ := hrel
        clear HF
        obtain ⟨t, ha, hok, hn⟩ := HG.out.tr
        have HB := hid HG.out.bel
        have gt : Gd t := ⟨hok, by have := HL.out; omega⟩
        by_cases hjm : j = n2
        · subst hjm
          have d2 : decide ((j : Int) < (j : Int)) = false := by simp
          have HRIS := hid hok.srt.ris
          have HTK := hid (show Tk w t wr from ⟨ha, HB.out⟩)
          have HGD := hid gt
          have HNN := hid hn
          have hlen := T.ks_len t
          obtain ⟨len, hlen2⟩ : ∃ n, t.n = n := ⟨_, rfl⟩
          rw [hlen2] at hlen hn
          have HLEN := hid hlen
          have HLEN2 := hid hlen2
          have MI := hid (min_any ha)
          have HM0 := hid (show oV t.ks.head? = .tuple #[.int .i64 (t.ky 0), .bool (decide (0 < len))] from by
            cases hk : t.ks with
            | nil => rw [hk] at hlen; simp at hlen; subst hlen; simp [oV, T.ky, hk]
            | cons a x => rw [hk] at hlen; simp at hlen; simp [oV, T.ky, hk]; omega)
          rw [HM0.out] at MI
          have blen : (len : Int) ≤ 1048576 := by omega
          have bli : (len : Int) ≤ (i : Int) := by omega
          clear ha hok hn gt hlen hlen2 HG hj HM0
          go_wp2_with (first | (go_at_call 16; with_reducible refine (MI.out).mono ?_; rintro e w5 ⟨rfl, rfl⟩))
          go_loopw [8, 9, 10, 11, 12, 13, 14, 15, 16] (fun nv kv ov _ _ _ _ _ _ wr => ∃ n : Nat, n ≤ len ∧ nv = .int .i64 n ∧ kv = .int .i64 (t.ky n) ∧ ov = .bool (decide (n < len)) ∧ Hid (Tk w t wr)) (fun nv _ _ _ _ _ _ _ _ _ => len - (intOf nv).toNat)
          case atStart => exact ⟨0, Nat.zero_le _, rfl, rfl, rfl, HTK⟩
          case round =>
            obtain ⟨n, hnl, rfl, rfl, rfl, HQ⟩ := hrel
            clear HTK MI
            by_cases hne : n = len
            · subst hne
              have d3 : decide (n < n) = false := by simp
              have MX := hid (max_any HQ.out.av)
              have HM1 := hid (show ∃ x, oV t.ks.getLast? = .tuple #[.int .i64 x, .bool (decide (0 < n))] ∧ (0 < n → x = t.ky (n - 1)) from by
                have hl := HLEN.out
                rw [List.getLast?_eq_getElem?, hl]
                by_cases h0 : 0 < n
                · rw [T.ky_get (by omega)]
                  exact ⟨_, by simp [oV, h0], fun _ => rfl⟩
                · rw [List.getElem?_eq_none (by omega)]
                  exact ⟨0, by simp [oV, h0], fun h => absurd h h0⟩)
              obtain ⟨x0, hx0, hx1⟩ := HM1.out
              rw [hx0] at MX
              have HX0 := hid hx1
              have LE := hid (show ∀ w', Tk w t w' → Calls Try.prog 13 #[.pointer (some ⟨w.heap.size, 0, none⟩)] w' fun e w2 => e = .returned (.int .i64 n) ∧ w2 = w' from fun w' ha => by have := len_any ha.av; rw [HLEN2.out] at this; exact this)
              have AT := hid (show ∀ w', Tk w t w' → Calls Try.prog 17 #[.pointer (some ⟨w.heap.size, 0, none⟩), .int .i64 n] w' fun e w2 => e = .returned (.tuple #[.int .i64 0, .bool false]) ∧ w2 = w' from fun w' ha => by have := at_any ha.av HGD.out.lim n (by omega); have h2 := T.nth_end t; rw [HLEN.out] at h2; rw [h2] at this; exact this)
              clear HM1 hx0 hx1 hnl
              go_wp2_with (first | (go_at_call 20; with_reducible refine (MX.out).mono ?_; rintro e w5 ⟨rfl, rfl⟩))
              go_loopw [9, 10, 17] (fun kv ov mv wr => ∃ (m : Nat) (x : Int), m ≤ n ∧ mv = .int .i64 m ∧ kv = .int .i64 x ∧ ov = .bool (decide (m < n)) ∧ Hid (m < n → x = t.ky (n - 1 - m)) ∧ Hid (Tk w t wr)) (fun _ _ mv _ => n - (intOf mv).toNat)
              case atStart => exact ⟨0, x0, Nat.zero_le _, rfl, rfl, rfl, hid (fun h => by rw [HX0.out h]; rfl), HQ⟩
              case round =>
                obtain ⟨m, x, hmn, rfl, rfl, rfl, HX, HR⟩ := hrel
                clear HQ HX0 MX
                by_cases hme : m = n
                · subst hme
                  have d4 : decide (m < m) = false := by simp
                  have PT := hid (put_any (av_new wr) gd_nil 3 4)
                  have GE := hid (show ∀ w', Av w' wr.heap.size (T.put 3 4 .nil) → Calls Try.prog 14 #[.pointer (some ⟨wr.heap.size, 0, none⟩), .int .i64 3] w' fun e w2 => e = .returned (.tuple #[.int .i64 4, .bool true]) ∧ Below w'.heap.size w' w2 from fun w' ha => get_any ha 3)
                  have HRA := hid (HR.out.step (ball wr (.cells #[.pointer none] 32)))
                  have HRS := hid HR.out.av.lt
                  have HAA := hid (show ∀ w', Ko wr.heap.size (wr.alloc (.cells #[.pointer none] 32)) w' → Tk w t w' from fun w' hk => ⟨HRA.out.av.ko (av_new wr) hk (by have := HRS.out; omega), Ko.below HRA.out.bel hk (HR.out.bel).size HRA.out.bel.size⟩)
                  have mm : ((m : Int) == (m : Int)) = true := by simp
                  clear hmn HX
                  go_wp2_with (first | (go_at_call 17; with_reducible refine (AT.out _ HR.out).mono ?_; rintro e w5 ⟨rfl, rfl⟩) | (go_at_call 11; with_reducible refine (PT.out).mono ?_; rintro e w6 ⟨rfl, hav6, hko6⟩; have HAV6 := hid hav6; have HT6 := hid (HAA.out _ hko6); clear hav6 hko6) | (go_at_call 14; with_reducible refine (GE.out _ HAV6.out).mono ?_; rintro e w7 ⟨rfl, hb7⟩; have HT7 := hid (HT6.out.step hb7); clear hb7) | (go_at_call 13; with_reducible refine (LE.out _ HT7.out).mono ?_; rintro e w8 ⟨rfl, rfl⟩))
                  go_ret
                  exact ⟨rfl, HT7.out.bel⟩
                · have hml : m < n := by omega
                  have d4 : decide (m < n) = true := by simp [hml]
                  rw [d4]
                  clear d4
                  have hx := HX.out hml
                  have BL := hid (show ∃ y, (m + 1 < n → y = t.ky (n - 1 - (m + 1))) ∧ Calls Try.prog 19 #[.pointer (some ⟨w.heap.size, 0, none⟩), .int .i64 x] wr fun e w' => e = .returned (.tuple #[.int .i64 y, .bool (decide (m + 1 < n))]) ∧ Below wr.heap.size wr w' from by
                    have h1 := below_any HR.out.av x
                    have h2 := HLEN.out
                    by_cases h3 : m + 1 < n
                    · rw [hx, show n - 1 - m = (n - 1 - (m + 1)) + 1 by omega, T.blw_ky HRIS.out (by omega)] at h1
                      rw [hx, show n - 1 - m = (n - 1 - (m + 1)) + 1 by omega]
                      exact ⟨_, fun _ => rfl, by simp only [oV] at h1; simpa [h3] using h1⟩
                    · rw [hx, show n - 1 - m = 0 by omega, T.blw_ky0 HRIS.out (by omega)] at h1
                      rw [hx, show n - 1 - m = 0 by omega]
                      exact ⟨0, fun h => absurd h h3, by simp only [oV] at h1; simpa [h3] using h1⟩)
                  obtain ⟨y, hy, hbl⟩ := BL.out
                  have HY := hid hy
                  have BC := hid hbl
                  have f1 : (m : Int) ≤ (i : Int) := by omega
                  have wj : IntKind.i64.wrap ((m : Int) + 1) = ((m + 1 : Nat) : Int) := by simp [IntKind.wrap, IntKind.bits, IntKind.signed]; omega
                  have HJM := hid (show m + 1 ≤ n ∧ n - (m + 1) < n - m by omega)
                  generalize m + 1 = m1 at wj HJM HY BC
                  clear BL hy hbl hx hml hme hmn HX
                  go_wp2_with (first | (go_at_call 19; with_reducible refine (BC.out).mono ?_; rintro e w6 ⟨rfl, hb6⟩; have HT6 := hid (HR.out.step hb6); clear hb6))
                  go_roundw
                  case rel => exact ⟨m1, y, HJM.out.1, rfl, rfl, rfl, HY, HT6⟩
                  case measure => simpa [intOf] using HJM.out.2
            · have hlt : n < len := by omega
              have d3 : decide (n < len) = true := by simp [hlt]
              rw [d3]
              clear d3
              have hks : n < t.ks.length := by rw [HLEN.out]; exact hlt
              have AT := hid (show Calls Try.prog 17 #[.pointer (some ⟨w.heap.size, 0, none⟩), .int .i64 n] wr fun e w2 => e = .returned (.tuple #[.int .i64 (t.ky n), .bool true]) ∧ w2 = wr from by have := at_any HQ.out.av HGD.out.lim n (by omega); rw [T.nth_ky hks] at this; exact this)
              have RA := hid (show Calls Try.prog 15 #[.pointer (some ⟨w.heap.size, 0, none⟩), .int .i64 (t.ky n)] wr fun e w2 => e = .returned (.int .i64 n) ∧ w2 = wr from by have := rank_any HQ.out.av HGD.out.lim (t.ky n); rw [T.rk_ky HRIS.out hks] at this; exact this)
              have AB := hid (show Calls Try.prog 18 #[.pointer (some ⟨w.heap.size, 0, none⟩), .int .i64 (t.ky n)] wr fun e w2 => e = .returned (.tuple #[.int .i64 (t.ky (n + 1)), .bool (decide (n + 1 < len))]) ∧ Below wr.heap.size wr w2 from by
                have h1 := above_any HQ.out.av (t.ky n)
                rw [T.abv_ky HRIS.out hks] at h1
                have h2 := HLEN.out
                by_cases h3 : n + 1 < len
                · rw [T.ky_get (by omega)] at h1
                  simp only [oV] at h1
                  simpa [h3] using h1
                · rw [List.getElem?_eq_none (by omega)] at h1
                  have h4 : t.ky (n + 1) = 0 := by unfold T.ky; simp [List.getD, List.getElem?_eq_none (show t.ks.length ≤ n + 1 by omega)]
                  simp only [oV] at h1
                  simpa [h3, h4] using h1)
              have BE := hid (show n + 1 < len → (∀ w', Tk w t w' → Calls Try.prog 19 #[.pointer (some ⟨w.heap.size, 0, none⟩), .int .i64 (t.ky (n + 1))] w' fun e w2 => e = .returned (.tuple #[.int .i64 (t.ky n), .bool true]) ∧ Below w'.heap.size w' w2) ∧ t.ky n < t.ky (n + 1) from by
                intro h3
                have h2 := HLEN.out
                refine ⟨?_, T.ky_lt HRIS.out (by omega)⟩
                intro w' ha
                have h1 := below_any ha.av (t.ky (n + 1))
                rw [T.blw_ky HRIS.out (by omega)] at h1
                exact h1)
              obtain ⟨x, hx⟩ : ∃ x, t.ky n = x := ⟨_, rfl⟩
              rw [hx] at AT RA AB BE ⊢
              have f1 : (n : Int) ≤ (i : Int) := by omega
              have f1' : decide ((i : Int) < (n : Int)) = false := by simp; omega
              have f1'' : decide (i < n) = false := by simp; omega
              have wj : IntKind.i64.wrap ((n : Int) + 1) = ((n + 1 : Nat) : Int) := by simp [IntKind.wrap, IntKind.bits, IntKind.signed]; omega
              have HJM := hid (show n + 1 ≤ len ∧ len - (n + 1) < len - n by omega)
              obtain ⟨n1', hn1'⟩ : ∃ a, n + 1 = a := ⟨_, rfl⟩
              rw [hn1'] at wj HJM AB BE
              obtain ⟨y, hy⟩ : ∃ y, t.ky n1' = y := ⟨_, rfl⟩
              rw [hy] at AB BE
              have HY := hid hy
              have xx : (x == x) = true := by simp
              have xx2 : (x != x) = false := by simp
              have nn2 : ((n : Int) != (n : Int)) = false := by simp
              clear hne hlt hks hx hn1' hy hnl f1
              by_cases hm : n1' < len
              · have d5 : decide (n1' < len) = true := by simp [hm]
                rw [d5] at AB
                obtain ⟨hb1, hb2⟩ := BE.out hm
                have BC := hid hb1
                have f5 : decide (y ≤ x) = false := by simp; omega
                have HM := hid hm
                clear hb1 hb2 BE hm d5
                go_wp2_with (first | (go_at_call 17; with_reducible refine (AT.out).mono ?_; rintro e w5 ⟨rfl, rfl⟩) | (go_at_call 15; with_reducible refine (RA.out).mono ?_; rintro e w5 ⟨rfl, rfl⟩) | (go_at_call 18; with_reducible refine (AB.out).mono ?_; rintro e w6 ⟨rfl, hb6⟩; have HT6 := hid (HQ.out.step hb6); clear hb6) | (go_at_call 19; with_reducible refine (BC.out _ HT6.out).mono ?_; rintro e w7 ⟨rfl, hb7⟩; have HT7 := hid (HT6.out.step hb7); clear hb7))
                go_roundw
                case rel => exact ⟨n1', HJM.out.1, rfl, by rw [HY.out], by simp [HM.out], HT7⟩
                case measure => simpa [intOf] using HJM.out.2
              · have d5 : decide (n1' < len) = false := by simp; omega
                rw [d5] at AB
                have HM := hid hm
                clear BE hm d5
                go_wp2_with (first | (go_at_call 17; with_reducible refine (AT.out).mono ?_; rintro e w5 ⟨rfl, rfl⟩) | (go_at_call 15; with_reducible refine (RA.out).mono ?_; rintro e w5 ⟨rfl, rfl⟩) | (go_at_call 18; with_reducible refine (AB.out).mono ?_; rintro e w6 ⟨rfl, hb6⟩; have HT6 := hid (HQ.out.step hb6); clear hb6))
                go_roundw
                case rel => exact ⟨n1', HJM.out.1, rfl, by rw [HY.out], by simp [HM.out], HT6⟩
                case measure => simpa [intOf] using HJM.out.2
        · have hjl : j < drops.length := by rw [HN2.out]; omega
          obtain ⟨b, off, rfl, hc⟩ := HV2.out.at HB.out hjl
          obtain ⟨x, hx⟩ : ∃ x, drops.getD j 0 = x := ⟨_, rfl⟩
          rw [hx] at hc
          have PT := hid (drop_w (w0 := w) ha gt x)
          have FP := hid (show ∀ w', Av w' w.heap.size (t.drop x) → Below w.heap.size w w' → Tn w i w' from fun w' h1 h2 => ⟨⟨_, h1, hok.drop x, Nat.le_trans (T.n_drop_le hok x) hn⟩, h2⟩)
          have f1 : (j : Int) < (n2 : Int) := by omega
          have f2 : (0 : Int) ≤ (j : Int) := by omega
          have ct1 : ((j : Int)).toNat = j := by omega
          have wj : IntKind.i64.wrap ((j : Int) + 1) = ((j + 1 : Nat) : Int) := by simp [IntKind.wrap, IntKind.bits, IntKind.signed]; omega
          have HJM := hid (show j + 1 ≤ n2 ∧ n2 - (j + 1) < n2 - j by omega)
          obtain ⟨j1, hj1⟩ : ∃ j1, j + 1 = j1 := ⟨_, rfl⟩
          rw [hj1] at wj HJM
          clear hj hjm hjl ha hok hn gt hx hj1
          go_wp2_with (first | (go_at_call 12; with_reducible refine (PT.out).mono ?_; rintro e w5 ⟨a5, b5, rfl, hav5, hko5⟩; clear PT; have HAV5 := hid hav5; have HB5 := hid (Ko.below HB.out hko5 (Nat.le_refl _) HB.out.size); clear hav5 hko5))
          go_roundw
          case rel => exact ⟨j1, HJM.out.1, rfl, FP.out _ HAV5.out HB5.out⟩
          case measure => simpa [intOf] using HJM.out.2
    · have hil : i < keys.length := by rw [HN1.out]; omega
      obtain ⟨t, ha, hok, hn⟩ := HF.out.tr
      have HB := hid HF.out.bel
      have gt : Gd t := ⟨hok, by have := HL.out; omega⟩
      obtain ⟨b, off, rfl, hc⟩ := HV1.out.at HB.out hil
      obtain ⟨x, hx⟩ : ∃ x, keys.getD i 0 = x := ⟨_, rfl⟩
      rw [hx] at hc
      have PT := hid (put_w (w0 := w) ha gt x i)
      have FP := hid (show ∀ w', Av w' w.heap.size (t.put x i) → Below w.heap.size w w' → Tn w (i + 1) w' from fun w' h1 h2 => ⟨⟨_, h1, hok.put x i, by have := T.n_put_le hok.srt x i; omega⟩, h2⟩)
      have f1 : (i : Int) < (n1 : Int) := by omega
      have f2 : (0 : Int) ≤ (i : Int) := by omega
      have ct1 : ((i : Int)).toNat = i := by omega
      have wj : IntKind.i64.wrap ((i : Int) + 1) = ((i + 1 : Nat) : Int) := by simp [IntKind.wrap, IntKind.bits, IntKind.signed]; omega
      have HJM := hid (show i + 1 ≤ n1 ∧ n1 - (i + 1) < n1 - i by omega)
      obtain ⟨j1, hj1⟩ : ∃ j1, i + 1 = j1 := ⟨_, rfl⟩
      rw [hj1] at wj HJM FP
      clear hi him hil ha hok hn gt hx hj1 HF
      go_wp2_with (first | (go_at_call 11; with_reducible refine (PT.out).mono ?_; rintro e w5 ⟨a5, b5, rfl, hav5, hko5⟩; clear PT; have HAV5 := hid hav5; have HB5 := hid (Ko.below HB.out hko5 (Nat.le_refl _) HB.out.size); clear hav5 hko5))
      go_roundw
      case rel => exact ⟨j1, HJM.out.1, rfl, FP.out _ HAV5.out HB5.out⟩
      case measure => simpa [intOf] using HJM.out.2
end Go.Proofs.Ytldpkmegofncfaa
