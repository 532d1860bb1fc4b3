/-
  partialInsertionSort exactly: plain.
-/
import Derived.Test.YtjpkodllemoniaaDoorXs
namespace Go.Proofs.YtjpkodllemoniaaDoor.Sr
open Go.RowKit Go.Deep
set_option linter.unusedVariables false
set_option linter.unusedSimpArgs false
set_option maxHeartbeats 8000000
set_option maxRecDepth 100000
attribute [local go_sem ↓] Go.wp_at_zero Go.wp_at_succ
def siD (a b s i : Nat) (d : Array Int) : Array Int × Bool := Go.Sort.partialIns lt a b s i (if b - i ≥ 2 then Go.Sort.shiftUp lt b (i + 1) d else d)
def siC (a b s i : Nat) (d : Array Int) : Array Int × Bool := siD a b s i (if i - a ≥ 2 then Go.Sort.shiftDown lt (i - 1) d else d)
def siB (a b s i : Nat) (d : Array Int) : Array Int × Bool := if i = b then (d, true) else if b - a < 50 then (d, false) else siC a b s i (Go.Sort.swp d i (i - 1))
theorem si_eq (a b s i : Nat) (d : Array Int) : Go.Sort.partialIns lt a b (s + 1) i d = siB a b s (Go.Sort.scanSorted lt d b i) d := rfl
theorem sc_u {a b s i k : Nat} {l : List Int} {RR : Array Int × Bool} (hk : i = k + 1) (h : i < b) (hl : siB a b s (Go.Sort.scanSorted lt l.toArray b i) l.toArray = RR) : ((!decide (gd l i < gd l k)) = true → siB a b s (Go.Sort.scanSorted lt l.toArray b (i + 1)) l.toArray = RR) ∧ ((!decide (gd l i < gd l k)) = false → siB a b s i l.toArray = RR) := by
  subst hk
  refine ⟨fun e => ?_, fun e => ?_⟩
  · have e1 : Go.Sort.scanSorted lt l.toArray b (k + 1) = Go.Sort.scanSorted lt l.toArray b (k + 1 + 1) := by
      conv => lhs; unfold Go.Sort.scanSorted
      rw [if_pos]
      simp only [arr_get, Nat.add_sub_cancel, lt_def, e, Bool.and_true, decide_eq_true_eq]; exact h
    rw [e1] at hl; exact hl
  · have e1 : Go.Sort.scanSorted lt l.toArray b (k + 1) = k + 1 := by
      unfold Go.Sort.scanSorted
      rw [if_neg]
      simp only [arr_get, Nat.add_sub_cancel, lt_def, e, Bool.and_false]; simp
    rw [e1] at hl; exact hl
theorem sc_un {a b s i : Nat} {l : List Int} {RR : Array Int × Bool} (h : ¬ i < b) (hl : siB a b s (Go.Sort.scanSorted lt l.toArray b i) l.toArray = RR) : siB a b s i l.toArray = RR := by
  have e1 : Go.Sort.scanSorted lt l.toArray b i = i := by
    unfold Go.Sort.scanSorted
    rw [if_neg]
    simp [h]
  rw [e1] at hl; exact hl
theorem sb_t {a b s i : Nat} {d : Array Int} {RR : Array Int × Bool} (h : i = b) (hl : siB a b s i d = RR) : (d, true) = RR := by
  unfold siB at hl; rw [if_pos h] at hl; exact hl
theorem sb_f {a b s i : Nat} {d : Array Int} {RR : Array Int × Bool} (h : ¬ i = b) (h2 : b - a < 50) (hl : siB a b s i d = RR) : (d, false) = RR := by
  unfold siB at hl; rw [if_neg h, if_pos h2] at hl; exact hl
theorem sb_c {a b s i q : Nat} {l : List Int} {RR : Array Int × Bool} (hq : i = q + 1) (h : ¬ i = b) (h2 : ¬ b - a < 50) (hl : siB a b s i l.toArray = RR) : siC a b s i (sw l i q).toArray = RR := by
  unfold siB at hl; rw [if_neg h, if_neg h2] at hl
  rw [sw_arr]
  subst hq
  exact hl
theorem sc_d {a b s i q : Nat} {d : Array Int} {RR : Array Int × Bool} (hq : i = q + 1) (h : i - a ≥ 2) (hl : siC a b s i d = RR) : siD a b s i (Go.Sort.shiftDown lt q d) = RR := by
  unfold siC at hl; rw [if_pos h] at hl
  subst hq
  exact hl
theorem sc_n {a b s i : Nat} {d : Array Int} {RR : Array Int × Bool} (h : ¬ i - a ≥ 2) (hl : siC a b s i d = RR) : siD a b s i d = RR := by
  unfold siC at hl; rw [if_neg h] at hl; exact hl
theorem sd_u {a b s i : Nat} {d : Array Int} {RR : Array Int × Bool} (h : b - i ≥ 2) (hl : siD a b s i d = RR) : Go.Sort.partialIns lt a b s i (Go.Sort.shiftUp lt b (i + 1) d) = RR := by
  unfold siD at hl; rw [if_pos h] at hl; exact hl
theorem sd_n {a b s i : Nat} {d : Array Int} {RR : Array Int × Bool} (h : ¬ b - i ≥ 2) (hl : siD a b s i d = RR) : Go.Sort.partialIns lt a b s i d = RR := by
  unfold siD at hl; rw [if_neg h] at hl; exact hl
theorem dn_go {j k : Nat} {l : List Int} (hk : j = k + 1) (G : Array Int → Prop) (hl : G (Go.Sort.shiftDown lt j l.toArray)) : ((!decide (gd l j < gd l k)) = true → G l.toArray) ∧ ((!decide (gd l j < gd l k)) = false → G (Go.Sort.shiftDown lt k (sw l j k).toArray)) := by
  subst hk
  unfold Go.Sort.shiftDown at hl
  simp only [arr_get, lt_def] at hl
  refine ⟨fun e => ?_, fun e => ?_⟩
  · rw [if_pos e] at hl; exact hl
  · rw [if_neg (by rw [e]; decide)] at hl
    rw [sw_arr]; exact hl
theorem up_go {b j k : Nat} {l : List Int} (hk : j = k + 1) (h : j < b) (G : Array Int → Prop) (hl : G (Go.Sort.shiftUp lt b j l.toArray)) : ((!decide (gd l j < gd l k)) = true → G l.toArray) ∧ ((!decide (gd l j < gd l k)) = false → G (Go.Sort.shiftUp lt b (j + 1) (sw l j k).toArray)) := by
  subst hk
  unfold Go.Sort.shiftUp at hl
  rw [if_pos h] at hl
  simp only [arr_get, lt_def, Nat.add_sub_cancel] at hl
  refine ⟨fun e => ?_, fun e => ?_⟩
  · rw [if_pos e] at hl; exact hl
  · rw [if_neg (by rw [e]; decide)] at hl
    rw [sw_arr]; exact hl
theorem up_no {b j : Nat} {d : Array Int} (h : ¬ j < b) : Go.Sort.shiftUp lt b j d = d := by
  unfold Go.Sort.shiftUp
  rw [if_neg h]
end Go.Proofs.YtjpkodllemoniaaDoor.Sr
namespace Go.Proofs.YtjpkodllemoniaaDoor.Sr
open Go.RowKit Go.Deep
set_option linter.unusedVariables false
set_option linter.unusedSimpArgs false
set_option maxHeartbeats 8000000
set_option maxRecDepth 100000
attribute [local go_sem ↓] Go.wp_at_zero Go.wp_at_succ
theorem pins_ex (g cap n : Nat) (l0 : List Int) (a b : Nat) (w0 : World) (h : Uz w0 g n l0) (hab : a < b) (hbn : b ≤ n) (hn : n ≤ 1152921504606846976) :
    Calls Tryd.prog 62 #[.slice (some ⟨g, 0, none⟩) n cap, .int .i64 a, .int .i64 b] w0 fun e w' => ∃ (q : Bool), e = .returned (.bool q) ∧ q = (Go.Sort.partialInsertionSort lt l0.toArray a b).2 ∧ Sp w0 w' g n (fun l => l.toArray = (Go.Sort.partialInsertionSort lt l0.toArray a b).1) := by
  obtain ⟨RR, hRR⟩ : ∃ R, Go.Sort.partialInsertionSort lt l0.toArray a b = R := ⟨_, rfl⟩
  rw [hRR]
  have HS := hid (h.sp (F := fun l => Go.Sort.partialIns lt a b (5 - 0) (a + 1) l.toArray = RR) hRR)
  have wa : IntKind.i64.wrap ((a : Int) + 1) = ((a + 1 : Nat) : Int) := by rw [IntKind.wrap_i64]; omega
  clear h hRR
  go_enter Tryd.func62, Tryd.ntmps62
  go_upto_region 3 with fail
  go_loopw [7, 8] (fun iv cv wr => ∃ i c : Nat, iv = .int .i64 i ∧ cv = .int .i64 c ∧ a < i ∧ i ≤ b ∧ c ≤ 5 ∧ Hid (Sp w0 wr g n (fun l => Go.Sort.partialIns lt a b (5 - c) i l.toArray = RR))) (fun _ cv _ => 6 - (intOf cv).toNat)
  case atStart => exact ⟨a + 1, 0, rfl, rfl, by omega, by omega, by omega, HS⟩
  case round =>
    clear HS
    obtain ⟨i, c, rfl, rfl, i0, i1, c1, HS⟩ := hrel
    by_cases hc5 : c < 5
    · have ic5 : (c : Int) < 5 := by omega
      have wc : IntKind.i64.wrap ((c : Int) + 1) = ((c + 1 : Nat) : Int) := by rw [IntKind.wrap_i64]; omega
      obtain ⟨s, hs⟩ : ∃ s, 5 - c = s + 1 := ⟨4 - c, by omega⟩
      have HSS := hid hs
      have HSU := hid (HS.out.mono (G := fun l => siB a b s (Go.Sort.scanSorted lt l.toArray b i) l.toArray = RR) (fun l _ hl => by rw [hs, si_eq] at hl; exact hl))
      clear HS hs
      go_upto_region 5 with fail
      go_loopw [7] (fun iv wr => ∃ i' : Nat, iv = .int .i64 i' ∧ i ≤ i' ∧ i' ≤ b ∧ Hid (Sp w0 wr g n (fun l => siB a b s (Go.Sort.scanSorted lt l.toArray b i') l.toArray = RR))) (fun iv _ => b + 1 - (intOf iv).toNat)
      case atStart => exact ⟨i, rfl, by omega, by omega, HSU⟩
      case round =>
        clear HSU
        obtain ⟨i', rfl, ii0, ii1, HS⟩ := hrel
        obtain ⟨k, hk⟩ : ∃ k, i' = k + 1 := ⟨i' - 1, by omega⟩
        have wk : IntKind.i64.wrap ((i' : Int) - 1) = (k : Int) := by rw [IntKind.wrap_i64]; omega
        have HKK := hid hk
        have hkn' : k < n := by omega
        have kk0 : (0 : Int) ≤ (k : Int) := by omega
        have kk2 : (k : Int) < (n : Int) := by omega
        clear hk
        go_upto_region 5 with fail
        refine reg_any3 [17, 18, 19, 20, 21, 22, 23, 24, 25, 26, 27, 28, 29, 30, 31, 32] (fun t X => Hid (∃ β : Bool, t 32 = .bool β ∧ (β = true → (i' < b) ∧ Sp w0 X g n (fun l => siB a b s (Go.Sort.scanSorted lt l.toArray b (i' + 1)) l.toArray = RR)) ∧ (β = false → Sp w0 X g n (fun l => siB a b s i' l.toArray = RR)))) ?_ ?_
        · by_cases hle : i' < b
          · have ile : (i' : Int) < (b : Int) := by omega
            obtain ⟨l, p1, u1, k1⟩ := HS.out
            have U1 := hid u1
            have K1 := hid k1
            have HP := hid (show (((!decide (gd l i' < gd l k))) = true → (fun l => siB a b s (Go.Sort.scanSorted lt l.toArray b (i' + 1)) l.toArray = RR) l) ∧ (((!decide (gd l i' < gd l k))) = false → (fun l => siB a b s i' l.toArray = RR) l) from sc_u HKK.out hle p1)
            obtain ⟨y, hy⟩ : ∃ y, gd l i' = y := ⟨_, rfl⟩
            have cy : wr.cell? ⟨g, i', none⟩ = some (.int .u64 y) := by rw [← hy]; exact u1.cell (by omega)
            rw [hy] at HP
            clear hy
            obtain ⟨z, hz⟩ : ∃ y, gd l k = y := ⟨_, rfl⟩
            have cz : wr.cell? ⟨g, k, none⟩ = some (.int .u64 z) := by rw [← hz]; exact u1.cell hkn'
            rw [hz] at HP
            clear hz
            clear p1 u1 k1
            have iz0 : (0 : Int) ≤ (i' : Int) := (by omega)
            have iz2 : (i' : Int) < (n : Int) := (by omega)
            have HLE := hid hle
            clear hle
            go_quiet (first | (go_at_call 63; with_reducible exact Calls.quiet_of_same (less_any _ _ _)))
            exact ⟨by kernel_rfl, hid ⟨_, by rfl, fun hb => ⟨HLE.out, l, HP.out.1 hb, U1.out.same (w' := wr.drewN nq) rfl, K1.out.trans (Kp.drewN _ wr nq) (fun _ _ e => e)⟩, fun hb => ⟨l, HP.out.2 hb, U1.out.same (w' := wr.drewN nq) rfl, K1.out.trans (Kp.drewN _ wr nq) (fun _ _ e => e)⟩⟩⟩
          · have HPN := hid (HS.out.mono (G := fun l => siB a b s i' l.toArray = RR) (fun l _ hl => sc_un hle hl))
            have ilN : decide (i' < b) = false := decide_eq_false hle
            have ile' : ¬ (i' : Int) < (b : Int) := by omega
            have ile : decide ((i' : Int) < (b : Int)) = false := decide_eq_false (by omega)
            go_quiet (first | (go_at_call 63; with_reducible exact Calls.quiet_of_same (less_any _ _ _)))
            exact ⟨by kernel_rfl, hid ⟨false, by rfl, (fun e => by cases e), fun _ => HPN.out.drewN nq⟩⟩
        · rintro t X HB
          obtain ⟨β, eβ, hβ, hγ⟩ := HB.out
          simp only [puts, List.foldl_cons, List.foldl_nil, Act.put, List.setIfInBounds_toArray, List.set_cons_zero, List.set_cons_succ]
          rw [eβ]
          clear eβ HB
          have wi : IntKind.i64.wrap ((i' : Int) + 1) = ((i' + 1 : Nat) : Int) := by rw [IntKind.wrap_i64]; omega
          cases β with
          | true =>
            have HSX := hid (hβ rfl).2
            have hβ' := (hβ rfl).1
            clear hβ hγ HS
            go_wp2
            go_roundw
            case rel => exact ⟨i' + 1, by go_num, by omega, by omega, HSX⟩
            case measure => first | (simp [intOf]; done) | (simp [intOf]; omega)
          | false =>
            have HSX := hid (hγ rfl)
            clear hβ hγ HS wi wk HKK hkn' kk0 kk2
            have HS := HSX
            clear HSX
            obtain ⟨i, hi⟩ : ∃ k, i' = k := ⟨_, rfl⟩
            rw [hi] at ii0 ii1 HS ⊢
            have i0 : a < i := by omega
            have i1 : i ≤ b := ii1
            clear hi
            by_cases hib : i = b
            · have HE := hid (show true = RR.2 ∧ Sp w0 X g n (fun l => l.toArray = RR.1) from by
                obtain ⟨l, p1, u1, k1⟩ := HS.out
                have e := sb_t hib p1
                exact ⟨by rw [← e], l, by rw [← e], u1, k1⟩)
              clear HS
              subst hib
              go_wp2
              go_ret
              first | exact ⟨true, rfl, HE.out⟩ | exact ⟨rfl, HE.out⟩ | exact .inl ⟨rfl, HE.out⟩ | exact .inr ⟨rfl, HE.out⟩ | exact .inl ⟨rfl, HE.out.1.symm, HE.out.2⟩ | exact .inr ⟨rfl, HE.out.1.symm, HE.out.2⟩ | (refine ⟨.inl ⟨?_, HE.out.1⟩, HE.out.2⟩; first | rfl | (simp; done)) | (refine ⟨.inr ⟨?_, HE.out.1⟩, HE.out.2⟩; first | rfl | (simp; done)) | (refine .inl ⟨?_, HE.out⟩; first | rfl | (simp; done)) | (refine .inr ⟨?_, HE.out⟩; first | rfl | (simp; done)) | exact ⟨by rw [← HE.out.1]; rfl, HE.out.2⟩ | (refine ⟨?_, HE.out.2⟩; rw [← HE.out.1]; simp; done) | (refine ⟨?_, HE.out⟩; first | rfl | (simp; done))
            · have eib : ((i : Int) == (b : Int)) = false := by simp; omega
              have wba : IntKind.i64.wrap ((b : Int) - (a : Int)) = (b : Int) - (a : Int) := by rw [IntKind.wrap_i64]; omega
              by_cases h50 : (b : Int) - (a : Int) < 50
              · have HE := hid (show false = RR.2 ∧ Sp w0 X g n (fun l => l.toArray = RR.1) from by
                  obtain ⟨l, p1, u1, k1⟩ := HS.out
                  have e := sb_f hib (by omega) p1
                  exact ⟨by rw [← e], l, by rw [← e], u1, k1⟩)
                clear HS
                go_wp2
                go_ret
                first | exact ⟨false, rfl, HE.out⟩ | exact ⟨rfl, HE.out⟩ | exact .inl ⟨rfl, HE.out⟩ | exact .inr ⟨rfl, HE.out⟩ | exact .inl ⟨rfl, HE.out.1.symm, HE.out.2⟩ | exact .inr ⟨rfl, HE.out.1.symm, HE.out.2⟩ | (refine ⟨.inl ⟨?_, HE.out.1⟩, HE.out.2⟩; first | rfl | (simp; done)) | (refine ⟨.inr ⟨?_, HE.out.1⟩, HE.out.2⟩; first | rfl | (simp; done)) | (refine .inl ⟨?_, HE.out⟩; first | rfl | (simp; done)) | (refine .inr ⟨?_, HE.out⟩; first | rfl | (simp; done)) | exact ⟨by rw [← HE.out.1]; rfl, HE.out.2⟩ | (refine ⟨?_, HE.out.2⟩; rw [← HE.out.1]; simp; done) | (refine ⟨?_, HE.out⟩; first | rfl | (simp; done))
              · have d50 : decide ((b : Int) - (a : Int) < 50) = false := decide_eq_false h50
                obtain ⟨q, hq⟩ : ∃ q, i = q + 1 := ⟨i - 1, by omega⟩
                have wq : IntKind.i64.wrap ((i : Int) - 1) = (q : Int) := by rw [IntKind.wrap_i64]; omega
                have HQQ := hid hq
                have hqn : q < n := by omega
                have hin' : i < n := by omega
                clear hq
                obtain ⟨l, p1, u1, k1⟩ := HS.out
                have P1 := hid (show (fun l => siC a b s i l.toArray = RR) (sw l i q) from sb_c HQQ.out hib (by omega) p1)
                have U1 := hid u1
                have K1 := hid k1
                have hin : i < n := by omega
                have hjn : q < n := by omega
                have si0 : (0 : Int) ≤ (i : Int) := by omega
                have si2 : (i : Int) < (n : Int) := by omega
                have sq0 : (0 : Int) ≤ (q : Int) := by omega
                have sq2 : (q : Int) < (n : Int) := by omega
                clear p1 u1 k1 HS
                go_upto_region 11 with fail
                refine reg_any [42, 43, 44, 45, 46, 47, 48, 49, 50, 51, 52, 53, 54, 55, 56, 57] (fun X => Hid (Sp w0 X g n (fun l => siC a b s i l.toArray = RR))) ?_ ?_
                · have U2 := hid (U1.out.same (w' := X.drew) rfl)
                  have K2 := hid (K1.out.trans (Kp.drew _ X) (fun _ _ e => e))
                  obtain ⟨V, hV⟩ : ∃ U, X.drew = U := ⟨_, rfl⟩
                  rw [hV] at U2 K2
                  obtain ⟨xi, hxi⟩ : ∃ x, gd l i = x := ⟨_, rfl⟩
                  obtain ⟨xj, hxj⟩ : ∃ x, gd l q = x := ⟨_, rfl⟩
                  have ci : V.cell? ⟨g, i, none⟩ = some (.int .u64 xi) := by rw [← hxi]; exact U2.out.cell hin
                  have cj : V.cell? ⟨g, q, none⟩ = some (.int .u64 xj) := by rw [← hxj]; exact U2.out.cell hjn
                  have fi := U2.out.frz i
                  have fj := U2.out.frz q
                  have U3 := hid (U2.out.set hin xj)
                  have cj3 := U3.out.cell hjn
                  have fj3 := U3.out.frz q
                  have HSW := hid (Sp.swap (F := fun l => siC a b s i l.toArray = RR) P1.out U2.out K2.out hin hjn)
                  rw [hxi, hxj] at HSW
                  refine wp_region_held_drew (S := fun _ => True) (by kernel_rfl) trivial (fun _ => ?_)
                  rw [hV]
                  clear hV hxi hxj
                  refine' wpAnyH_take (i := 0) (oi := _) (v := _) rfl (by kernel_rfl) (by kernel_rfl) (by kernel_rfl) (fun _ _ _ h => h) (Or.inl ⟨by kernel_rfl, ?_⟩) (by trivial) ?_
                  rotate_left
                  · (intro w hSw; go_simp; try (with_reducible rfl))
                  try simp only [List.getElem_toArray, List.getElem_cons_succ, List.getElem_cons_zero, Act.put, List.setIfInBounds_toArray, List.set_cons_zero, List.set_cons_succ]
                  refine' wpAnyH_take (i := 1) (oi := _) (v := _) rfl (by kernel_rfl) (by kernel_rfl) (by kernel_rfl) (fun _ _ _ h => h) (Or.inl ⟨by kernel_rfl, ?_⟩) (by trivial) ?_
                  rotate_left
                  · (intro w hSw; go_simp; try (with_reducible rfl))
                  try simp only [List.getElem_toArray, List.getElem_cons_succ, List.getElem_cons_zero, Act.put, List.setIfInBounds_toArray, List.set_cons_zero, List.set_cons_succ]
                  refine' wpAnyH_take (i := 2) (oi := _) (v := _) rfl (by kernel_rfl) (by kernel_rfl) (by kernel_rfl) (fun _ _ _ h => h) (Or.inl ⟨by kernel_rfl, ?_⟩) (by trivial) ?_
                  rotate_left
                  · (intro w hSw; go_simp; try (with_reducible rfl))
                  try simp only [List.getElem_toArray, List.getElem_cons_succ, List.getElem_cons_zero, Act.put, List.setIfInBounds_toArray, List.set_cons_zero, List.set_cons_succ]
                  refine' wpAnyH_take (i := 3) (oi := _) (v := _) rfl (by kernel_rfl) (by kernel_rfl) (by kernel_rfl) (fun _ _ _ h => h) (Or.inl ⟨by kernel_rfl, ?_⟩) (by trivial) ?_
                  rotate_left
                  · (intro w hSw; go_simp; try (with_reducible rfl))
                  try simp only [List.getElem_toArray, List.getElem_cons_succ, List.getElem_cons_zero, Act.put, List.setIfInBounds_toArray, List.set_cons_zero, List.set_cons_succ]
                  refine' wpAnyH_take (i := 4) (oi := _) (v := _) rfl (by kernel_rfl) (by kernel_rfl) (by kernel_rfl) (fun _ _ _ h => h) (Or.inl ⟨by kernel_rfl, ?_⟩) (by trivial) ?_
                  rotate_left
                  · (intro w hSw; go_simp; try (with_reducible rfl))
                  try simp only [List.getElem_toArray, List.getElem_cons_succ, List.getElem_cons_zero, Act.put, List.setIfInBounds_toArray, List.set_cons_zero, List.set_cons_succ]
                  refine' wpAnyH_take (i := 5) (oi := _) (v := _) rfl (by kernel_rfl) (by kernel_rfl) (by kernel_rfl) (fun _ _ _ h => h) (Or.inl ⟨by kernel_rfl, ?_⟩) (by trivial) ?_
                  rotate_left
                  · (intro w hSw; go_simp; try (with_reducible rfl))
                  try simp only [List.getElem_toArray, List.getElem_cons_succ, List.getElem_cons_zero, Act.put, List.setIfInBounds_toArray, List.set_cons_zero, List.set_cons_succ]
                  refine' wpAnyH_take (i := 6) (oi := _) (v := _) rfl (by kernel_rfl) (by kernel_rfl) (by kernel_rfl) (fun _ _ _ h => h) (Or.inl ⟨by kernel_rfl, ?_⟩) (by trivial) ?_
                  rotate_left
                  · (intro w hSw; go_simp; try (with_reducible rfl))
                  try simp only [List.getElem_toArray, List.getElem_cons_succ, List.getElem_cons_zero, Act.put, List.setIfInBounds_toArray, List.set_cons_zero, List.set_cons_succ]
                  refine' wpAnyH_take (i := 7) (oi := _) (v := _) rfl (by kernel_rfl) (by kernel_rfl) (by kernel_rfl) (fun _ _ _ h => h) (Or.inl ⟨by kernel_rfl, ?_⟩) (by trivial) ?_
                  rotate_left
                  · (intro w hSw; go_simp; try (with_reducible rfl))
                  try simp only [List.getElem_toArray, List.getElem_cons_succ, List.getElem_cons_zero, Act.put, List.setIfInBounds_toArray, List.set_cons_zero, List.set_cons_succ]
                  refine' wpAnyH_take (i := 8) (oi := _) (v := _) rfl (by kernel_rfl) (by kernel_rfl) (by kernel_rfl) (fun _ _ _ h => h) (Or.inl ⟨by kernel_rfl, ?_⟩) (by trivial) ?_
                  rotate_left
                  · (intro w hSw; go_simp; try (with_reducible rfl))
                  try simp only [List.getElem_toArray, List.getElem_cons_succ, List.getElem_cons_zero, Act.put, List.setIfInBounds_toArray, List.set_cons_zero, List.set_cons_succ]
                  refine' wpAnyH_take (i := 10) (oi := _) (v := _) rfl (by kernel_rfl) (by kernel_rfl) (by kernel_rfl) (fun _ _ _ h => h) (Or.inl ⟨by kernel_rfl, ?_⟩) (by trivial) ?_
                  rotate_left
                  · (intro w hSw; go_simp; try (with_reducible rfl))
                  try simp only [List.getElem_toArray, List.getElem_cons_succ, List.getElem_cons_zero, Act.put, List.setIfInBounds_toArray, List.set_cons_zero, List.set_cons_succ]
                  refine' wpAnyH_take (i := 11) (oi := _) (v := _) rfl (by kernel_rfl) (by kernel_rfl) (by kernel_rfl) (fun _ _ _ h => h) (Or.inl ⟨by kernel_rfl, ?_⟩) (by trivial) ?_
                  rotate_left
                  · (intro w hSw; go_simp; try (with_reducible rfl))
                  try simp only [List.getElem_toArray, List.getElem_cons_succ, List.getElem_cons_zero, Act.put, List.setIfInBounds_toArray, List.set_cons_zero, List.set_cons_succ]
                  refine' wpAnyH_take (i := 12) (oi := _) (v := _) rfl (by kernel_rfl) (by kernel_rfl) (by kernel_rfl) (fun _ _ _ h => h) (Or.inl ⟨by kernel_rfl, ?_⟩) (by trivial) ?_
                  rotate_left
                  · (intro w hSw; go_simp; try (with_reducible rfl))
                  try simp only [List.getElem_toArray, List.getElem_cons_succ, List.getElem_cons_zero, Act.put, List.setIfInBounds_toArray, List.set_cons_zero, List.set_cons_succ]
                  refine wpAnyH_ready (rs := [9, 13]) (by kernel_rfl) (by simp) ?_
                  refine (AllReadyH.cons (o := _) rfl (fun K hK => ?_) (AllReadyH.cons (o := _) rfl (fun K hK => ?_) AllReadyH.nil))
                  · go_simp
                    refine hK.out _ _ trivial (fun _ => ?_)
                    clear hK K
                    try simp only [List.getElem_toArray, List.getElem_cons_succ, List.getElem_cons_zero, Act.put, List.setIfInBounds_toArray, List.set_cons_zero, List.set_cons_succ]
                    refine wpAnyH_ready (rs := [13]) (by kernel_rfl) (by simp) ?_
                    refine (AllReadyH.cons (o := _) rfl (fun K hK => ?_) AllReadyH.nil)
                    go_simp
                    refine hK.out _ _ trivial (fun _ => ?_)
                    clear hK K
                    try simp only [List.getElem_toArray, List.getElem_cons_succ, List.getElem_cons_zero, Act.put, List.setIfInBounds_toArray, List.set_cons_zero, List.set_cons_succ]
                    refine' wpAnyH_take (i := 14) (oi := _) (v := _) rfl (by kernel_rfl) (by kernel_rfl) (by kernel_rfl) (fun _ _ _ h => h) (Or.inl ⟨by kernel_rfl, ?_⟩) (by trivial) ?_
                    rotate_left
                    · (intro w hSw; go_simp; try (with_reducible rfl))
                    try simp only [List.getElem_toArray, List.getElem_cons_succ, List.getElem_cons_zero, Act.put, List.setIfInBounds_toArray, List.set_cons_zero, List.set_cons_succ]
                    refine wpAnyH_ready (rs := [15]) (by kernel_rfl) (by simp) ?_
                    refine (AllReadyH.cons (o := _) rfl (fun K hK => ?_) AllReadyH.nil)
                    go_simp
                    refine hK.out _ _ trivial (fun _ => ?_)
                    clear hK K
                    try simp only [List.getElem_toArray, List.getElem_cons_succ, List.getElem_cons_zero, Act.put, List.setIfInBounds_toArray, List.set_cons_zero, List.set_cons_succ]
                    refine' wpAnyH_take (i := 16) (oi := _) (v := _) rfl (by kernel_rfl) (by kernel_rfl) (by kernel_rfl) (fun _ _ _ h => h) (Or.inl ⟨by kernel_rfl, ?_⟩) (by trivial) ?_
                    rotate_left
                    · (intro w hSw; go_simp; try (with_reducible rfl))
                    try simp only [List.getElem_toArray, List.getElem_cons_succ, List.getElem_cons_zero, Act.put, List.setIfInBounds_toArray, List.set_cons_zero, List.set_cons_succ]
                    refine wpAnyH_ready (rs := [17]) (by kernel_rfl) (by simp) ?_
                    refine (AllReadyH.cons (o := _) rfl (fun K hK => ?_) AllReadyH.nil)
                    go_simp
                    refine hK.out _ _ trivial (fun _ => ?_)
                    clear hK K
                    try simp only [List.getElem_toArray, List.getElem_cons_succ, List.getElem_cons_zero, Act.put, List.setIfInBounds_toArray, List.set_cons_zero, List.set_cons_succ]
                    refine wpAnyH_done (by kernel_rfl) ?_ _
                    exact ⟨by kernel_rfl, HSW⟩
                  · go_simp
                    refine hK.out _ _ trivial (fun _ => ?_)
                    clear hK K
                    try simp only [List.getElem_toArray, List.getElem_cons_succ, List.getElem_cons_zero, Act.put, List.setIfInBounds_toArray, List.set_cons_zero, List.set_cons_succ]
                    refine wpAnyH_ready (rs := [9]) (by kernel_rfl) (by simp) ?_
                    refine (AllReadyH.cons (o := _) rfl (fun K hK => ?_) AllReadyH.nil)
                    go_simp
                    refine hK.out _ _ trivial (fun _ => ?_)
                    clear hK K
                    try simp only [List.getElem_toArray, List.getElem_cons_succ, List.getElem_cons_zero, Act.put, List.setIfInBounds_toArray, List.set_cons_zero, List.set_cons_succ]
                    refine' wpAnyH_take (i := 14) (oi := _) (v := _) rfl (by kernel_rfl) (by kernel_rfl) (by kernel_rfl) (fun _ _ _ h => h) (Or.inl ⟨by kernel_rfl, ?_⟩) (by trivial) ?_
                    rotate_left
                    · (intro w hSw; go_simp; try (with_reducible rfl))
                    try simp only [List.getElem_toArray, List.getElem_cons_succ, List.getElem_cons_zero, Act.put, List.setIfInBounds_toArray, List.set_cons_zero, List.set_cons_succ]
                    refine wpAnyH_ready (rs := [15]) (by kernel_rfl) (by simp) ?_
                    refine (AllReadyH.cons (o := _) rfl (fun K hK => ?_) AllReadyH.nil)
                    go_simp
                    refine hK.out _ _ trivial (fun _ => ?_)
                    clear hK K
                    try simp only [List.getElem_toArray, List.getElem_cons_succ, List.getElem_cons_zero, Act.put, List.setIfInBounds_toArray, List.set_cons_zero, List.set_cons_succ]
                    refine' wpAnyH_take (i := 16) (oi := _) (v := _) rfl (by kernel_rfl) (by kernel_rfl) (by kernel_rfl) (fun _ _ _ h => h) (Or.inl ⟨by kernel_rfl, ?_⟩) (by trivial) ?_
                    rotate_left
                    · (intro w hSw; go_simp; try (with_reducible rfl))
                    try simp only [List.getElem_toArray, List.getElem_cons_succ, List.getElem_cons_zero, Act.put, List.setIfInBounds_toArray, List.set_cons_zero, List.set_cons_succ]
                    refine wpAnyH_ready (rs := [17]) (by kernel_rfl) (by simp) ?_
                    refine (AllReadyH.cons (o := _) rfl (fun K hK => ?_) AllReadyH.nil)
                    go_simp
                    refine hK.out _ _ trivial (fun _ => ?_)
                    clear hK K
                    try simp only [List.getElem_toArray, List.getElem_cons_succ, List.getElem_cons_zero, Act.put, List.setIfInBounds_toArray, List.set_cons_zero, List.set_cons_succ]
                    refine wpAnyH_done (by kernel_rfl) ?_ _
                    exact ⟨by kernel_rfl, HSW⟩
                · intro t X HS
                  simp only [puts, List.foldl_cons, List.foldl_nil, Act.put, List.setIfInBounds_toArray, List.set_cons_zero, List.set_cons_succ]
                  have wia : IntKind.i64.wrap ((i : Int) - (a : Int)) = (i : Int) - (a : Int) := by rw [IntKind.wrap_i64]; omega
                  by_cases h1 : 2 ≤ (i : Int) - (a : Int)
                  · have HSL := hid (HS.out.mono (G := fun l => siD a b s i (Go.Sort.shiftDown lt q l.toArray) = RR) (fun l _ hl => sc_d HQQ.out (by omega) hl))
                    clear HS
                    go_upto_region 14 with fail
                    go_loopw [9] (fun jv wr => ∃ j : Nat, jv = .int .i64 j ∧ j < b ∧ Hid (Sp w0 wr g n (fun l => siD a b s i (Go.Sort.shiftDown lt j l.toArray) = RR))) (fun jv _ => (intOf jv).toNat)
                    case atStart => exact ⟨q, rfl, by have := HQQ.out; omega, HSL⟩
                    case round =>
                      clear HSL
                      obtain ⟨j, rfl, j1, HS⟩ := hrel
                      by_cases hjb : 1 ≤ j
                      · have ijb : (1 : Int) ≤ (j : Int) := by omega
                        obtain ⟨k, hk⟩ : ∃ k, j = k + 1 := ⟨j - 1, by omega⟩
                        have wk : IntKind.i64.wrap ((j : Int) - 1) = (k : Int) := by rw [IntKind.wrap_i64]; omega
                        have hjn' : j < n := by omega
                        have hkn' : k < n := by omega
                        have j0' : (0 : Int) ≤ (j : Int) := by omega
                        have j2 : (j : Int) < (n : Int) := by omega
                        have k0' : (0 : Int) ≤ (k : Int) := by omega
                        have k2 : (k : Int) < (n : Int) := by omega
                        have HKK := hid hk
                        clear hk
                        go_upto_region 16 with fail
                        refine reg_any3 [68, 69, 70, 71, 72, 73, 74, 75, 76, 77, 78] (fun t X => Hid (∃ β : Bool, t 78 = .bool β ∧ (β = true → (True) ∧ Sp w0 X g n (fun l => siD a b s i l.toArray = RR)) ∧ (β = false → Sp w0 X g n (fun l => siD a b s i (Go.Sort.shiftDown lt k (sw l j k).toArray) = RR)))) ?_ ?_
                        · obtain ⟨l, p1, u1, k1⟩ := HS.out
                          have U1 := hid u1
                          have K1 := hid k1
                          have HP := hid (show (((!decide (gd l j < gd l k))) = true → (fun l => siD a b s i l.toArray = RR) l) ∧ (((!decide (gd l j < gd l k))) = false → (fun l => siD a b s i (Go.Sort.shiftDown lt k (sw l j k).toArray) = RR) l) from dn_go HKK.out (fun d => siD a b s i d = RR) p1)
                          obtain ⟨y, hy⟩ : ∃ y, gd l j = y := ⟨_, rfl⟩
                          have cy : wr.cell? ⟨g, j, none⟩ = some (.int .u64 y) := by rw [← hy]; exact u1.cell hjn'
                          rw [hy] at HP
                          clear hy
                          obtain ⟨z, hz⟩ : ∃ y, gd l k = y := ⟨_, rfl⟩
                          have cz : wr.cell? ⟨g, k, none⟩ = some (.int .u64 z) := by rw [← hz]; exact u1.cell hkn'
                          rw [hz] at HP
                          clear hz
                          clear p1 u1 k1
                          go_quiet (first | (go_at_call 63; with_reducible exact Calls.quiet_of_same (less_any _ _ _)))
                          exact ⟨by kernel_rfl, hid ⟨_, by rfl, fun hb => ⟨trivial, l, HP.out.1 hb, U1.out.same (w' := wr.drewN nq) rfl, K1.out.trans (Kp.drewN _ wr nq) (fun _ _ e => e)⟩, fun hb => ⟨l, HP.out.2 hb, U1.out.same (w' := wr.drewN nq) rfl, K1.out.trans (Kp.drewN _ wr nq) (fun _ _ e => e)⟩⟩⟩
                        · rintro t X HB
                          obtain ⟨β, eβ, hβ, hγ⟩ := HB.out
                          simp only [puts, List.foldl_cons, List.foldl_nil, Act.put, List.setIfInBounds_toArray, List.set_cons_zero, List.set_cons_succ]
                          rw [eβ]
                          clear eβ HB
                          clear HS
                          cases β with
                          | true =>
                            have HS := hid (hβ rfl).2
                            clear hβ hγ
                            have wbi : IntKind.i64.wrap ((b : Int) - (i : Int)) = (b : Int) - (i : Int) := by rw [IntKind.wrap_i64]; omega
                            by_cases h2 : 2 ≤ (b : Int) - (i : Int)
                            · have HSR := hid (HS.out.mono (G := fun l => Go.Sort.partialIns lt a b s i (Go.Sort.shiftUp lt b (i + 1) l.toArray) = RR) (fun l _ hl => sd_u (by omega) hl))
                              clear HS
                              have ri : (2 : Int) ≤ (b : Int) - (i : Int) := by omega
                              have wi2 : IntKind.i64.wrap ((i : Int) + 1) = ((i + 1 : Nat) : Int) := by rw [IntKind.wrap_i64]; omega
                              go_upto_region 20 with fail
                              go_loopw [10] (fun jv wr => ∃ j : Nat, jv = .int .i64 j ∧ 1 ≤ j ∧ j ≤ b ∧ Hid (Sp w0 wr g n (fun l => Go.Sort.partialIns lt a b s i (Go.Sort.shiftUp lt b j l.toArray) = RR))) (fun jv _ => b + 1 - (intOf jv).toNat)
                              case atStart => exact ⟨i + 1, rfl, by omega, by omega, HSR⟩
                              case round =>
                                clear HSR
                                obtain ⟨j, rfl, j0, j1, HS⟩ := hrel
                                by_cases hjb : j < b
                                · have ijb : (j : Int) < (b : Int) := by omega
                                  obtain ⟨k, hk⟩ : ∃ k, j = k + 1 := ⟨j - 1, by omega⟩
                                  have wk : IntKind.i64.wrap ((j : Int) - 1) = (k : Int) := by rw [IntKind.wrap_i64]; omega
                                  have wj1 : IntKind.i64.wrap ((j : Int) + 1) = ((j + 1 : Nat) : Int) := by rw [IntKind.wrap_i64]; omega
                                  have hjn' : j < n := by omega
                                  have hkn' : k < n := by omega
                                  have j0' : (0 : Int) ≤ (j : Int) := by omega
                                  have j2 : (j : Int) < (n : Int) := by omega
                                  have k0' : (0 : Int) ≤ (k : Int) := by omega
                                  have k2 : (k : Int) < (n : Int) := by omega
                                  have HKK := hid hk
                                  clear hk
                                  go_upto_region 22 with fail
                                  refine reg_any3 [106, 107, 108, 109, 110, 111, 112, 113, 114, 115, 116] (fun t X => Hid (∃ β : Bool, t 116 = .bool β ∧ (β = true → (True) ∧ Sp w0 X g n (fun l => Go.Sort.partialIns lt a b s i l.toArray = RR)) ∧ (β = false → Sp w0 X g n (fun l => Go.Sort.partialIns lt a b s i (Go.Sort.shiftUp lt b (j + 1) (sw l j k).toArray) = RR)))) ?_ ?_
                                  · obtain ⟨l, p1, u1, k1⟩ := HS.out
                                    have U1 := hid u1
                                    have K1 := hid k1
                                    have HP := hid (show (((!decide (gd l j < gd l k))) = true → (fun l => Go.Sort.partialIns lt a b s i l.toArray = RR) l) ∧ (((!decide (gd l j < gd l k))) = false → (fun l => Go.Sort.partialIns lt a b s i (Go.Sort.shiftUp lt b (j + 1) (sw l j k).toArray) = RR) l) from up_go HKK.out hjb (fun d => Go.Sort.partialIns lt a b s i d = RR) p1)
                                    obtain ⟨y, hy⟩ : ∃ y, gd l j = y := ⟨_, rfl⟩
                                    have cy : wr.cell? ⟨g, j, none⟩ = some (.int .u64 y) := by rw [← hy]; exact u1.cell hjn'
                                    rw [hy] at HP
                                    clear hy
                                    obtain ⟨z, hz⟩ : ∃ y, gd l k = y := ⟨_, rfl⟩
                                    have cz : wr.cell? ⟨g, k, none⟩ = some (.int .u64 z) := by rw [← hz]; exact u1.cell hkn'
                                    rw [hz] at HP
                                    clear hz
                                    clear p1 u1 k1
                                    go_quiet (first | (go_at_call 63; with_reducible exact Calls.quiet_of_same (less_any _ _ _)))
                                    exact ⟨by kernel_rfl, hid ⟨_, by rfl, fun hb => ⟨trivial, l, HP.out.1 hb, U1.out.same (w' := wr.drewN nq) rfl, K1.out.trans (Kp.drewN _ wr nq) (fun _ _ e => e)⟩, fun hb => ⟨l, HP.out.2 hb, U1.out.same (w' := wr.drewN nq) rfl, K1.out.trans (Kp.drewN _ wr nq) (fun _ _ e => e)⟩⟩⟩
                                  · rintro t X HB
                                    obtain ⟨β, eβ, hβ, hγ⟩ := HB.out
                                    simp only [puts, List.foldl_cons, List.foldl_nil, Act.put, List.setIfInBounds_toArray, List.set_cons_zero, List.set_cons_succ]
                                    rw [eβ]
                                    clear eβ HB
                                    clear HS
                                    cases β with
                                    | true =>
                                      have HS := hid (hβ rfl).2
                                      clear hβ hγ
                                      have HS2 := hid (show Sp w0 X g n (fun l => Go.Sort.partialIns lt a b (5 - (c + 1)) i l.toArray = RR) from HS.out.mono (fun l _ hl => by rw [show 5 - (c + 1) = s by have := HSS.out; omega]; exact hl))
                                      clear HS
                                      go_wp2
                                      go_roundw
                                      case rel => exact ⟨i, c + 1, by go_num, by go_num, by omega, by omega, by omega, HS2⟩
                                      case measure => first | (simp [intOf]; done) | (simp [intOf]; omega)
                                    | false =>
                                      have HS := hid (hγ rfl)
                                      clear hβ hγ
                                      obtain ⟨l, p1, u1, k1⟩ := HS.out
                                      have P1 := hid (show (fun l => Go.Sort.partialIns lt a b s i (Go.Sort.shiftUp lt b (j + 1) l.toArray) = RR) (sw l j k) from p1)
                                      have U1 := hid u1
                                      have K1 := hid k1
                                      have hin : j < n := by omega
                                      have hjn : k < n := by omega
                                      have sj0 : (0 : Int) ≤ (j : Int) := by omega
                                      have sj2 : (j : Int) < (n : Int) := by omega
                                      have sk0 : (0 : Int) ≤ (k : Int) := by omega
                                      have sk2 : (k : Int) < (n : Int) := by omega
                                      clear p1 u1 k1 HS
                                      go_upto_region 23 with fail
                                      refine reg_any [117, 118, 119, 120, 121, 122, 123, 124, 125, 126, 127, 128, 129, 130, 131, 132] (fun X => Hid (Sp w0 X g n (fun l => Go.Sort.partialIns lt a b s i (Go.Sort.shiftUp lt b (j + 1) l.toArray) = RR))) ?_ ?_
                                      · have U2 := hid (U1.out.same (w' := X.drew) rfl)
                                        have K2 := hid (K1.out.trans (Kp.drew _ X) (fun _ _ e => e))
                                        obtain ⟨V, hV⟩ : ∃ U, X.drew = U := ⟨_, rfl⟩
                                        rw [hV] at U2 K2
                                        obtain ⟨xi, hxi⟩ : ∃ x, gd l j = x := ⟨_, rfl⟩
                                        obtain ⟨xj, hxj⟩ : ∃ x, gd l k = x := ⟨_, rfl⟩
                                        have ci : V.cell? ⟨g, j, none⟩ = some (.int .u64 xi) := by rw [← hxi]; exact U2.out.cell hin
                                        have cj : V.cell? ⟨g, k, none⟩ = some (.int .u64 xj) := by rw [← hxj]; exact U2.out.cell hjn
                                        have fi := U2.out.frz j
                                        have fj := U2.out.frz k
                                        have U3 := hid (U2.out.set hin xj)
                                        have cj3 := U3.out.cell hjn
                                        have fj3 := U3.out.frz k
                                        have HSW := hid (Sp.swap (F := fun l => Go.Sort.partialIns lt a b s i (Go.Sort.shiftUp lt b (j + 1) l.toArray) = RR) P1.out U2.out K2.out hin hjn)
                                        rw [hxi, hxj] at HSW
                                        refine wp_region_held_drew (S := fun _ => True) (by kernel_rfl) trivial (fun _ => ?_)
                                        rw [hV]
                                        clear hV hxi hxj
                                        refine' wpAnyH_take (i := 0) (oi := _) (v := _) rfl (by kernel_rfl) (by kernel_rfl) (by kernel_rfl) (fun _ _ _ h => h) (Or.inl ⟨by kernel_rfl, ?_⟩) (by trivial) ?_
                                        rotate_left
                                        · (intro w hSw; go_simp; try (with_reducible rfl))
                                        try simp only [List.getElem_toArray, List.getElem_cons_succ, List.getElem_cons_zero, Act.put, List.setIfInBounds_toArray, List.set_cons_zero, List.set_cons_succ]
                                        refine' wpAnyH_take (i := 1) (oi := _) (v := _) rfl (by kernel_rfl) (by kernel_rfl) (by kernel_rfl) (fun _ _ _ h => h) (Or.inl ⟨by kernel_rfl, ?_⟩) (by trivial) ?_
                                        rotate_left
                                        · (intro w hSw; go_simp; try (with_reducible rfl))
                                        try simp only [List.getElem_toArray, List.getElem_cons_succ, List.getElem_cons_zero, Act.put, List.setIfInBounds_toArray, List.set_cons_zero, List.set_cons_succ]
                                        refine' wpAnyH_take (i := 2) (oi := _) (v := _) rfl (by kernel_rfl) (by kernel_rfl) (by kernel_rfl) (fun _ _ _ h => h) (Or.inl ⟨by kernel_rfl, ?_⟩) (by trivial) ?_
                                        rotate_left
                                        · (intro w hSw; go_simp; try (with_reducible rfl))
                                        try simp only [List.getElem_toArray, List.getElem_cons_succ, List.getElem_cons_zero, Act.put, List.setIfInBounds_toArray, List.set_cons_zero, List.set_cons_succ]
                                        refine' wpAnyH_take (i := 3) (oi := _) (v := _) rfl (by kernel_rfl) (by kernel_rfl) (by kernel_rfl) (fun _ _ _ h => h) (Or.inl ⟨by kernel_rfl, ?_⟩) (by trivial) ?_
                                        rotate_left
                                        · (intro w hSw; go_simp; try (with_reducible rfl))
                                        try simp only [List.getElem_toArray, List.getElem_cons_succ, List.getElem_cons_zero, Act.put, List.setIfInBounds_toArray, List.set_cons_zero, List.set_cons_succ]
                                        refine' wpAnyH_take (i := 4) (oi := _) (v := _) rfl (by kernel_rfl) (by kernel_rfl) (by kernel_rfl) (fun _ _ _ h => h) (Or.inl ⟨by kernel_rfl, ?_⟩) (by trivial) ?_
                                        rotate_left
                                        · (intro w hSw; go_simp; try (with_reducible rfl))
                                        try simp only [List.getElem_toArray, List.getElem_cons_succ, List.getElem_cons_zero, Act.put, List.setIfInBounds_toArray, List.set_cons_zero, List.set_cons_succ]
                                        refine' wpAnyH_take (i := 5) (oi := _) (v := _) rfl (by kernel_rfl) (by kernel_rfl) (by kernel_rfl) (fun _ _ _ h => h) (Or.inl ⟨by kernel_rfl, ?_⟩) (by trivial) ?_
                                        rotate_left
                                        · (intro w hSw; go_simp; try (with_reducible rfl))
                                        try simp only [List.getElem_toArray, List.getElem_cons_succ, List.getElem_cons_zero, Act.put, List.setIfInBounds_toArray, List.set_cons_zero, List.set_cons_succ]
                                        refine' wpAnyH_take (i := 6) (oi := _) (v := _) rfl (by kernel_rfl) (by kernel_rfl) (by kernel_rfl) (fun _ _ _ h => h) (Or.inl ⟨by kernel_rfl, ?_⟩) (by trivial) ?_
                                        rotate_left
                                        · (intro w hSw; go_simp; try (with_reducible rfl))
                                        try simp only [List.getElem_toArray, List.getElem_cons_succ, List.getElem_cons_zero, Act.put, List.setIfInBounds_toArray, List.set_cons_zero, List.set_cons_succ]
                                        refine' wpAnyH_take (i := 7) (oi := _) (v := _) rfl (by kernel_rfl) (by kernel_rfl) (by kernel_rfl) (fun _ _ _ h => h) (Or.inl ⟨by kernel_rfl, ?_⟩) (by trivial) ?_
                                        rotate_left
                                        · (intro w hSw; go_simp; try (with_reducible rfl))
                                        try simp only [List.getElem_toArray, List.getElem_cons_succ, List.getElem_cons_zero, Act.put, List.setIfInBounds_toArray, List.set_cons_zero, List.set_cons_succ]
                                        refine' wpAnyH_take (i := 8) (oi := _) (v := _) rfl (by kernel_rfl) (by kernel_rfl) (by kernel_rfl) (fun _ _ _ h => h) (Or.inl ⟨by kernel_rfl, ?_⟩) (by trivial) ?_
                                        rotate_left
                                        · (intro w hSw; go_simp; try (with_reducible rfl))
                                        try simp only [List.getElem_toArray, List.getElem_cons_succ, List.getElem_cons_zero, Act.put, List.setIfInBounds_toArray, List.set_cons_zero, List.set_cons_succ]
                                        refine' wpAnyH_take (i := 10) (oi := _) (v := _) rfl (by kernel_rfl) (by kernel_rfl) (by kernel_rfl) (fun _ _ _ h => h) (Or.inl ⟨by kernel_rfl, ?_⟩) (by trivial) ?_
                                        rotate_left
                                        · (intro w hSw; go_simp; try (with_reducible rfl))
                                        try simp only [List.getElem_toArray, List.getElem_cons_succ, List.getElem_cons_zero, Act.put, List.setIfInBounds_toArray, List.set_cons_zero, List.set_cons_succ]
                                        refine' wpAnyH_take (i := 11) (oi := _) (v := _) rfl (by kernel_rfl) (by kernel_rfl) (by kernel_rfl) (fun _ _ _ h => h) (Or.inl ⟨by kernel_rfl, ?_⟩) (by trivial) ?_
                                        rotate_left
                                        · (intro w hSw; go_simp; try (with_reducible rfl))
                                        try simp only [List.getElem_toArray, List.getElem_cons_succ, List.getElem_cons_zero, Act.put, List.setIfInBounds_toArray, List.set_cons_zero, List.set_cons_succ]
                                        refine' wpAnyH_take (i := 12) (oi := _) (v := _) rfl (by kernel_rfl) (by kernel_rfl) (by kernel_rfl) (fun _ _ _ h => h) (Or.inl ⟨by kernel_rfl, ?_⟩) (by trivial) ?_
                                        rotate_left
                                        · (intro w hSw; go_simp; try (with_reducible rfl))
                                        try simp only [List.getElem_toArray, List.getElem_cons_succ, List.getElem_cons_zero, Act.put, List.setIfInBounds_toArray, List.set_cons_zero, List.set_cons_succ]
                                        refine wpAnyH_ready (rs := [9, 13]) (by kernel_rfl) (by simp) ?_
                                        refine (AllReadyH.cons (o := _) rfl (fun K hK => ?_) (AllReadyH.cons (o := _) rfl (fun K hK => ?_) AllReadyH.nil))
                                        · go_simp
                                          refine hK.out _ _ trivial (fun _ => ?_)
                                          clear hK K
                                          try simp only [List.getElem_toArray, List.getElem_cons_succ, List.getElem_cons_zero, Act.put, List.setIfInBounds_toArray, List.set_cons_zero, List.set_cons_succ]
                                          refine wpAnyH_ready (rs := [13]) (by kernel_rfl) (by simp) ?_
                                          refine (AllReadyH.cons (o := _) rfl (fun K hK => ?_) AllReadyH.nil)
                                          go_simp
                                          refine hK.out _ _ trivial (fun _ => ?_)
                                          clear hK K
                                          try simp only [List.getElem_toArray, List.getElem_cons_succ, List.getElem_cons_zero, Act.put, List.setIfInBounds_toArray, List.set_cons_zero, List.set_cons_succ]
                                          refine' wpAnyH_take (i := 14) (oi := _) (v := _) rfl (by kernel_rfl) (by kernel_rfl) (by kernel_rfl) (fun _ _ _ h => h) (Or.inl ⟨by kernel_rfl, ?_⟩) (by trivial) ?_
                                          rotate_left
                                          · (intro w hSw; go_simp; try (with_reducible rfl))
                                          try simp only [List.getElem_toArray, List.getElem_cons_succ, List.getElem_cons_zero, Act.put, List.setIfInBounds_toArray, List.set_cons_zero, List.set_cons_succ]
                                          refine wpAnyH_ready (rs := [15]) (by kernel_rfl) (by simp) ?_
                                          refine (AllReadyH.cons (o := _) rfl (fun K hK => ?_) AllReadyH.nil)
                                          go_simp
                                          refine hK.out _ _ trivial (fun _ => ?_)
                                          clear hK K
                                          try simp only [List.getElem_toArray, List.getElem_cons_succ, List.getElem_cons_zero, Act.put, List.setIfInBounds_toArray, List.set_cons_zero, List.set_cons_succ]
                                          refine' wpAnyH_take (i := 16) (oi := _) (v := _) rfl (by kernel_rfl) (by kernel_rfl) (by kernel_rfl) (fun _ _ _ h => h) (Or.inl ⟨by kernel_rfl, ?_⟩) (by trivial) ?_
                                          rotate_left
                                          · (intro w hSw; go_simp; try (with_reducible rfl))
                                          try simp only [List.getElem_toArray, List.getElem_cons_succ, List.getElem_cons_zero, Act.put, List.setIfInBounds_toArray, List.set_cons_zero, List.set_cons_succ]
                                          refine wpAnyH_ready (rs := [17]) (by kernel_rfl) (by simp) ?_
                                          refine (AllReadyH.cons (o := _) rfl (fun K hK => ?_) AllReadyH.nil)
                                          go_simp
                                          refine hK.out _ _ trivial (fun _ => ?_)
                                          clear hK K
                                          try simp only [List.getElem_toArray, List.getElem_cons_succ, List.getElem_cons_zero, Act.put, List.setIfInBounds_toArray, List.set_cons_zero, List.set_cons_succ]
                                          refine wpAnyH_done (by kernel_rfl) ?_ _
                                          exact ⟨by kernel_rfl, HSW⟩
                                        · go_simp
                                          refine hK.out _ _ trivial (fun _ => ?_)
                                          clear hK K
                                          try simp only [List.getElem_toArray, List.getElem_cons_succ, List.getElem_cons_zero, Act.put, List.setIfInBounds_toArray, List.set_cons_zero, List.set_cons_succ]
                                          refine wpAnyH_ready (rs := [9]) (by kernel_rfl) (by simp) ?_
                                          refine (AllReadyH.cons (o := _) rfl (fun K hK => ?_) AllReadyH.nil)
                                          go_simp
                                          refine hK.out _ _ trivial (fun _ => ?_)
                                          clear hK K
                                          try simp only [List.getElem_toArray, List.getElem_cons_succ, List.getElem_cons_zero, Act.put, List.setIfInBounds_toArray, List.set_cons_zero, List.set_cons_succ]
                                          refine' wpAnyH_take (i := 14) (oi := _) (v := _) rfl (by kernel_rfl) (by kernel_rfl) (by kernel_rfl) (fun _ _ _ h => h) (Or.inl ⟨by kernel_rfl, ?_⟩) (by trivial) ?_
                                          rotate_left
                                          · (intro w hSw; go_simp; try (with_reducible rfl))
                                          try simp only [List.getElem_toArray, List.getElem_cons_succ, List.getElem_cons_zero, Act.put, List.setIfInBounds_toArray, List.set_cons_zero, List.set_cons_succ]
                                          refine wpAnyH_ready (rs := [15]) (by kernel_rfl) (by simp) ?_
                                          refine (AllReadyH.cons (o := _) rfl (fun K hK => ?_) AllReadyH.nil)
                                          go_simp
                                          refine hK.out _ _ trivial (fun _ => ?_)
                                          clear hK K
                                          try simp only [List.getElem_toArray, List.getElem_cons_succ, List.getElem_cons_zero, Act.put, List.setIfInBounds_toArray, List.set_cons_zero, List.set_cons_succ]
                                          refine' wpAnyH_take (i := 16) (oi := _) (v := _) rfl (by kernel_rfl) (by kernel_rfl) (by kernel_rfl) (fun _ _ _ h => h) (Or.inl ⟨by kernel_rfl, ?_⟩) (by trivial) ?_
                                          rotate_left
                                          · (intro w hSw; go_simp; try (with_reducible rfl))
                                          try simp only [List.getElem_toArray, List.getElem_cons_succ, List.getElem_cons_zero, Act.put, List.setIfInBounds_toArray, List.set_cons_zero, List.set_cons_succ]
                                          refine wpAnyH_ready (rs := [17]) (by kernel_rfl) (by simp) ?_
                                          refine (AllReadyH.cons (o := _) rfl (fun K hK => ?_) AllReadyH.nil)
                                          go_simp
                                          refine hK.out _ _ trivial (fun _ => ?_)
                                          clear hK K
                                          try simp only [List.getElem_toArray, List.getElem_cons_succ, List.getElem_cons_zero, Act.put, List.setIfInBounds_toArray, List.set_cons_zero, List.set_cons_succ]
                                          refine wpAnyH_done (by kernel_rfl) ?_ _
                                          exact ⟨by kernel_rfl, HSW⟩
                                      · intro t X HS
                                        simp only [puts, List.foldl_cons, List.foldl_nil, Act.put, List.setIfInBounds_toArray, List.set_cons_zero, List.set_cons_succ]
                                        go_wp2
                                        go_roundw
                                        case rel => exact ⟨j + 1, by go_num, by omega, by omega, HS⟩
                                        case measure => first | (simp [intOf]; done) | (simp [intOf]; omega)
                                · have ijb : ¬ (j : Int) < (b : Int) := by omega
                                  have djb : decide ((j : Int) < (b : Int)) = false := decide_eq_false ijb
                                  have HSX := hid (HS.out.mono (G := fun l => Go.Sort.partialIns lt a b s i l.toArray = RR) (fun l _ hl => by rw [up_no hjb] at hl; exact hl))
                                  clear HS
                                  have HS := HSX
                                  clear HSX
                                  have HS2 := hid (show Sp w0 wr g n (fun l => Go.Sort.partialIns lt a b (5 - (c + 1)) i l.toArray = RR) from HS.out.mono (fun l _ hl => by rw [show 5 - (c + 1) = s by have := HSS.out; omega]; exact hl))
                                  clear HS
                                  go_wp2
                                  go_roundw
                                  case rel => exact ⟨i, c + 1, by go_num, by go_num, by omega, by omega, by omega, HS2⟩
                                  case measure => first | (simp [intOf]; done) | (simp [intOf]; omega)
                            · have d2 : decide ((2 : Int) ≤ (b : Int) - (i : Int)) = false := decide_eq_false h2
                              have HSX := hid (HS.out.mono (G := fun l => Go.Sort.partialIns lt a b s i l.toArray = RR) (fun l _ hl => sd_n (by omega) hl))
                              clear HS
                              have HS := HSX
                              clear HSX
                              have HS2 := hid (show Sp w0 X g n (fun l => Go.Sort.partialIns lt a b (5 - (c + 1)) i l.toArray = RR) from HS.out.mono (fun l _ hl => by rw [show 5 - (c + 1) = s by have := HSS.out; omega]; exact hl))
                              clear HS
                              go_wp2
                              go_roundw
                              case rel => exact ⟨i, c + 1, by go_num, by go_num, by omega, by omega, by omega, HS2⟩
                              case measure => first | (simp [intOf]; done) | (simp [intOf]; omega)
                          | false =>
                            have HS := hid (hγ rfl)
                            clear hβ hγ
                            obtain ⟨l, p1, u1, k1⟩ := HS.out
                            have P1 := hid (show (fun l => siD a b s i (Go.Sort.shiftDown lt k l.toArray) = RR) (sw l j k) from p1)
                            have U1 := hid u1
                            have K1 := hid k1
                            have hin : j < n := by omega
                            have hjn : k < n := by omega
                            have sj0 : (0 : Int) ≤ (j : Int) := by omega
                            have sj2 : (j : Int) < (n : Int) := by omega
                            have sk0 : (0 : Int) ≤ (k : Int) := by omega
                            have sk2 : (k : Int) < (n : Int) := by omega
                            clear p1 u1 k1 HS
                            go_upto_region 17 with fail
                            refine reg_any [79, 80, 81, 82, 83, 84, 85, 86, 87, 88, 89, 90, 91, 92, 93, 94] (fun X => Hid (Sp w0 X g n (fun l => siD a b s i (Go.Sort.shiftDown lt k l.toArray) = RR))) ?_ ?_
                            · have U2 := hid (U1.out.same (w' := X.drew) rfl)
                              have K2 := hid (K1.out.trans (Kp.drew _ X) (fun _ _ e => e))
                              obtain ⟨V, hV⟩ : ∃ U, X.drew = U := ⟨_, rfl⟩
                              rw [hV] at U2 K2
                              obtain ⟨xi, hxi⟩ : ∃ x, gd l j = x := ⟨_, rfl⟩
                              obtain ⟨xj, hxj⟩ : ∃ x, gd l k = x := ⟨_, rfl⟩
                              have ci : V.cell? ⟨g, j, none⟩ = some (.int .u64 xi) := by rw [← hxi]; exact U2.out.cell hin
                              have cj : V.cell? ⟨g, k, none⟩ = some (.int .u64 xj) := by rw [← hxj]; exact U2.out.cell hjn
                              have fi := U2.out.frz j
                              have fj := U2.out.frz k
                              have U3 := hid (U2.out.set hin xj)
                              have cj3 := U3.out.cell hjn
                              have fj3 := U3.out.frz k
                              have HSW := hid (Sp.swap (F := fun l => siD a b s i (Go.Sort.shiftDown lt k l.toArray) = RR) P1.out U2.out K2.out hin hjn)
                              rw [hxi, hxj] at HSW
                              refine wp_region_held_drew (S := fun _ => True) (by kernel_rfl) trivial (fun _ => ?_)
                              rw [hV]
                              clear hV hxi hxj
                              refine' wpAnyH_take (i := 0) (oi := _) (v := _) rfl (by kernel_rfl) (by kernel_rfl) (by kernel_rfl) (fun _ _ _ h => h) (Or.inl ⟨by kernel_rfl, ?_⟩) (by trivial) ?_
                              rotate_left
                              · (intro w hSw; go_simp; try (with_reducible rfl))
                              try simp only [List.getElem_toArray, List.getElem_cons_succ, List.getElem_cons_zero, Act.put, List.setIfInBounds_toArray, List.set_cons_zero, List.set_cons_succ]
                              refine' wpAnyH_take (i := 1) (oi := _) (v := _) rfl (by kernel_rfl) (by kernel_rfl) (by kernel_rfl) (fun _ _ _ h => h) (Or.inl ⟨by kernel_rfl, ?_⟩) (by trivial) ?_
                              rotate_left
                              · (intro w hSw; go_simp; try (with_reducible rfl))
                              try simp only [List.getElem_toArray, List.getElem_cons_succ, List.getElem_cons_zero, Act.put, List.setIfInBounds_toArray, List.set_cons_zero, List.set_cons_succ]
                              refine' wpAnyH_take (i := 2) (oi := _) (v := _) rfl (by kernel_rfl) (by kernel_rfl) (by kernel_rfl) (fun _ _ _ h => h) (Or.inl ⟨by kernel_rfl, ?_⟩) (by trivial) ?_
                              rotate_left
                              · (intro w hSw; go_simp; try (with_reducible rfl))
                              try simp only [List.getElem_toArray, List.getElem_cons_succ, List.getElem_cons_zero, Act.put, List.setIfInBounds_toArray, List.set_cons_zero, List.set_cons_succ]
                              refine' wpAnyH_take (i := 3) (oi := _) (v := _) rfl (by kernel_rfl) (by kernel_rfl) (by kernel_rfl) (fun _ _ _ h => h) (Or.inl ⟨by kernel_rfl, ?_⟩) (by trivial) ?_
                              rotate_left
                              · (intro w hSw; go_simp; try (with_reducible rfl))
                              try simp only [List.getElem_toArray, List.getElem_cons_succ, List.getElem_cons_zero, Act.put, List.setIfInBounds_toArray, List.set_cons_zero, List.set_cons_succ]
                              refine' wpAnyH_take (i := 4) (oi := _) (v := _) rfl (by kernel_rfl) (by kernel_rfl) (by kernel_rfl) (fun _ _ _ h => h) (Or.inl ⟨by kernel_rfl, ?_⟩) (by trivial) ?_
                              rotate_left
                              · (intro w hSw; go_simp; try (with_reducible rfl))
                              try simp only [List.getElem_toArray, List.getElem_cons_succ, List.getElem_cons_zero, Act.put, List.setIfInBounds_toArray, List.set_cons_zero, List.set_cons_succ]
                              refine' wpAnyH_take (i := 5) (oi := _) (v := _) rfl (by kernel_rfl) (by kernel_rfl) (by kernel_rfl) (fun _ _ _ h => h) (Or.inl ⟨by kernel_rfl, ?_⟩) (by trivial) ?_
                              rotate_left
                              · (intro w hSw; go_simp; try (with_reducible rfl))
                              try simp only [List.getElem_toArray, List.getElem_cons_succ, List.getElem_cons_zero, Act.put, List.setIfInBounds_toArray, List.set_cons_zero, List.set_cons_succ]
                              refine' wpAnyH_take (i := 6) (oi := _) (v := _) rfl (by kernel_rfl) (by kernel_rfl) (by kernel_rfl) (fun _ _ _ h => h) (Or.inl ⟨by kernel_rfl, ?_⟩) (by trivial) ?_
                              rotate_left
                              · (intro w hSw; go_simp; try (with_reducible rfl))
                              try simp only [List.getElem_toArray, List.getElem_cons_succ, List.getElem_cons_zero, Act.put, List.setIfInBounds_toArray, List.set_cons_zero, List.set_cons_succ]
                              refine' wpAnyH_take (i := 7) (oi := _) (v := _) rfl (by kernel_rfl) (by kernel_rfl) (by kernel_rfl) (fun _ _ _ h => h) (Or.inl ⟨by kernel_rfl, ?_⟩) (by trivial) ?_
                              rotate_left
                              · (intro w hSw; go_simp; try (with_reducible rfl))
                              try simp only [List.getElem_toArray, List.getElem_cons_succ, List.getElem_cons_zero, Act.put, List.setIfInBounds_toArray, List.set_cons_zero, List.set_cons_succ]
                              refine' wpAnyH_take (i := 8) (oi := _) (v := _) rfl (by kernel_rfl) (by kernel_rfl) (by kernel_rfl) (fun _ _ _ h => h) (Or.inl ⟨by kernel_rfl, ?_⟩) (by trivial) ?_
                              rotate_left
                              · (intro w hSw; go_simp; try (with_reducible rfl))
                              try simp only [List.getElem_toArray, List.getElem_cons_succ, List.getElem_cons_zero, Act.put, List.setIfInBounds_toArray, List.set_cons_zero, List.set_cons_succ]
                              refine' wpAnyH_take (i := 10) (oi := _) (v := _) rfl (by kernel_rfl) (by kernel_rfl) (by kernel_rfl) (fun _ _ _ h => h) (Or.inl ⟨by kernel_rfl, ?_⟩) (by trivial) ?_
                              rotate_left
                              · (intro w hSw; go_simp; try (with_reducible rfl))
                              try simp only [List.getElem_toArray, List.getElem_cons_succ, List.getElem_cons_zero, Act.put, List.setIfInBounds_toArray, List.set_cons_zero, List.set_cons_succ]
                              refine' wpAnyH_take (i := 11) (oi := _) (v := _) rfl (by kernel_rfl) (by kernel_rfl) (by kernel_rfl) (fun _ _ _ h => h) (Or.inl ⟨by kernel_rfl, ?_⟩) (by trivial) ?_
                              rotate_left
                              · (intro w hSw; go_simp; try (with_reducible rfl))
                              try simp only [List.getElem_toArray, List.getElem_cons_succ, List.getElem_cons_zero, Act.put, List.setIfInBounds_toArray, List.set_cons_zero, List.set_cons_succ]
                              refine' wpAnyH_take (i := 12) (oi := _) (v := _) rfl (by kernel_rfl) (by kernel_rfl) (by kernel_rfl) (fun _ _ _ h => h) (Or.inl ⟨by kernel_rfl, ?_⟩) (by trivial) ?_
                              rotate_left
                              · (intro w hSw; go_simp; try (with_reducible rfl))
                              try simp only [List.getElem_toArray, List.getElem_cons_succ, List.getElem_cons_zero, Act.put, List.setIfInBounds_toArray, List.set_cons_zero, List.set_cons_succ]
                              refine wpAnyH_ready (rs := [9, 13]) (by kernel_rfl) (by simp) ?_
                              refine (AllReadyH.cons (o := _) rfl (fun K hK => ?_) (AllReadyH.cons (o := _) rfl (fun K hK => ?_) AllReadyH.nil))
                              · go_simp
                                refine hK.out _ _ trivial (fun _ => ?_)
                                clear hK K
                                try simp only [List.getElem_toArray, List.getElem_cons_succ, List.getElem_cons_zero, Act.put, List.setIfInBounds_toArray, List.set_cons_zero, List.set_cons_succ]
                                refine wpAnyH_ready (rs := [13]) (by kernel_rfl) (by simp) ?_
                                refine (AllReadyH.cons (o := _) rfl (fun K hK => ?_) AllReadyH.nil)
                                go_simp
                                refine hK.out _ _ trivial (fun _ => ?_)
                                clear hK K
                                try simp only [List.getElem_toArray, List.getElem_cons_succ, List.getElem_cons_zero, Act.put, List.setIfInBounds_toArray, List.set_cons_zero, List.set_cons_succ]
                                refine' wpAnyH_take (i := 14) (oi := _) (v := _) rfl (by kernel_rfl) (by kernel_rfl) (by kernel_rfl) (fun _ _ _ h => h) (Or.inl ⟨by kernel_rfl, ?_⟩) (by trivial) ?_
                                rotate_left
                                · (intro w hSw; go_simp; try (with_reducible rfl))
                                try simp only [List.getElem_toArray, List.getElem_cons_succ, List.getElem_cons_zero, Act.put, List.setIfInBounds_toArray, List.set_cons_zero, List.set_cons_succ]
                                refine wpAnyH_ready (rs := [15]) (by kernel_rfl) (by simp) ?_
                                refine (AllReadyH.cons (o := _) rfl (fun K hK => ?_) AllReadyH.nil)
                                go_simp
                                refine hK.out _ _ trivial (fun _ => ?_)
                                clear hK K
                                try simp only [List.getElem_toArray, List.getElem_cons_succ, List.getElem_cons_zero, Act.put, List.setIfInBounds_toArray, List.set_cons_zero, List.set_cons_succ]
                                refine' wpAnyH_take (i := 16) (oi := _) (v := _) rfl (by kernel_rfl) (by kernel_rfl) (by kernel_rfl) (fun _ _ _ h => h) (Or.inl ⟨by kernel_rfl, ?_⟩) (by trivial) ?_
                                rotate_left
                                · (intro w hSw; go_simp; try (with_reducible rfl))
                                try simp only [List.getElem_toArray, List.getElem_cons_succ, List.getElem_cons_zero, Act.put, List.setIfInBounds_toArray, List.set_cons_zero, List.set_cons_succ]
                                refine wpAnyH_ready (rs := [17]) (by kernel_rfl) (by simp) ?_
                                refine (AllReadyH.cons (o := _) rfl (fun K hK => ?_) AllReadyH.nil)
                                go_simp
                                refine hK.out _ _ trivial (fun _ => ?_)
                                clear hK K
                                try simp only [List.getElem_toArray, List.getElem_cons_succ, List.getElem_cons_zero, Act.put, List.setIfInBounds_toArray, List.set_cons_zero, List.set_cons_succ]
                                refine wpAnyH_done (by kernel_rfl) ?_ _
                                exact ⟨by kernel_rfl, HSW⟩
                              · go_simp
                                refine hK.out _ _ trivial (fun _ => ?_)
                                clear hK K
                                try simp only [List.getElem_toArray, List.getElem_cons_succ, List.getElem_cons_zero, Act.put, List.setIfInBounds_toArray, List.set_cons_zero, List.set_cons_succ]
                                refine wpAnyH_ready (rs := [9]) (by kernel_rfl) (by simp) ?_
                                refine (AllReadyH.cons (o := _) rfl (fun K hK => ?_) AllReadyH.nil)
                                go_simp
                                refine hK.out _ _ trivial (fun _ => ?_)
                                clear hK K
                                try simp only [List.getElem_toArray, List.getElem_cons_succ, List.getElem_cons_zero, Act.put, List.setIfInBounds_toArray, List.set_cons_zero, List.set_cons_succ]
                                refine' wpAnyH_take (i := 14) (oi := _) (v := _) rfl (by kernel_rfl) (by kernel_rfl) (by kernel_rfl) (fun _ _ _ h => h) (Or.inl ⟨by kernel_rfl, ?_⟩) (by trivial) ?_
                                rotate_left
                                · (intro w hSw; go_simp; try (with_reducible rfl))
                                try simp only [List.getElem_toArray, List.getElem_cons_succ, List.getElem_cons_zero, Act.put, List.setIfInBounds_toArray, List.set_cons_zero, List.set_cons_succ]
                                refine wpAnyH_ready (rs := [15]) (by kernel_rfl) (by simp) ?_
                                refine (AllReadyH.cons (o := _) rfl (fun K hK => ?_) AllReadyH.nil)
                                go_simp
                                refine hK.out _ _ trivial (fun _ => ?_)
                                clear hK K
                                try simp only [List.getElem_toArray, List.getElem_cons_succ, List.getElem_cons_zero, Act.put, List.setIfInBounds_toArray, List.set_cons_zero, List.set_cons_succ]
                                refine' wpAnyH_take (i := 16) (oi := _) (v := _) rfl (by kernel_rfl) (by kernel_rfl) (by kernel_rfl) (fun _ _ _ h => h) (Or.inl ⟨by kernel_rfl, ?_⟩) (by trivial) ?_
                                rotate_left
                                · (intro w hSw; go_simp; try (with_reducible rfl))
                                try simp only [List.getElem_toArray, List.getElem_cons_succ, List.getElem_cons_zero, Act.put, List.setIfInBounds_toArray, List.set_cons_zero, List.set_cons_succ]
                                refine wpAnyH_ready (rs := [17]) (by kernel_rfl) (by simp) ?_
                                refine (AllReadyH.cons (o := _) rfl (fun K hK => ?_) AllReadyH.nil)
                                go_simp
                                refine hK.out _ _ trivial (fun _ => ?_)
                                clear hK K
                                try simp only [List.getElem_toArray, List.getElem_cons_succ, List.getElem_cons_zero, Act.put, List.setIfInBounds_toArray, List.set_cons_zero, List.set_cons_succ]
                                refine wpAnyH_done (by kernel_rfl) ?_ _
                                exact ⟨by kernel_rfl, HSW⟩
                            · intro t X HS
                              simp only [puts, List.foldl_cons, List.foldl_nil, Act.put, List.setIfInBounds_toArray, List.set_cons_zero, List.set_cons_succ]
                              go_wp2
                              go_roundw
                              case rel => exact ⟨k, by go_num, by have := HKK.out; omega, HS⟩
                              case measure => have := HKK.out; first | (simp [intOf]; done) | (simp [intOf]; omega)
                      · have ijb : ¬ (1 : Int) ≤ (j : Int) := by omega
                        have djb : decide ((1 : Int) ≤ (j : Int)) = false := decide_eq_false ijb
                        have HSX := hid (HS.out.mono (G := fun l => siD a b s i l.toArray = RR) (fun l _ hl => by rw [show j = 0 by omega] at hl; exact hl))
                        clear HS
                        have HS := HSX
                        clear HSX
                        have wbi : IntKind.i64.wrap ((b : Int) - (i : Int)) = (b : Int) - (i : Int) := by rw [IntKind.wrap_i64]; omega
                        by_cases h2 : 2 ≤ (b : Int) - (i : Int)
                        · have HSR := hid (HS.out.mono (G := fun l => Go.Sort.partialIns lt a b s i (Go.Sort.shiftUp lt b (i + 1) l.toArray) = RR) (fun l _ hl => sd_u (by omega) hl))
                          clear HS
                          have ri : (2 : Int) ≤ (b : Int) - (i : Int) := by omega
                          have wi2 : IntKind.i64.wrap ((i : Int) + 1) = ((i + 1 : Nat) : Int) := by rw [IntKind.wrap_i64]; omega
                          go_upto_region 20 with fail
                          go_loopw [10] (fun jv wr => ∃ j : Nat, jv = .int .i64 j ∧ 1 ≤ j ∧ j ≤ b ∧ Hid (Sp w0 wr g n (fun l => Go.Sort.partialIns lt a b s i (Go.Sort.shiftUp lt b j l.toArray) = RR))) (fun jv _ => b + 1 - (intOf jv).toNat)
                          case atStart => exact ⟨i + 1, rfl, by omega, by omega, HSR⟩
                          case round =>
                            clear HSR
                            obtain ⟨j, rfl, j0, j1, HS⟩ := hrel
                            by_cases hjb : j < b
                            · have ijb : (j : Int) < (b : Int) := by omega
                              obtain ⟨k, hk⟩ : ∃ k, j = k + 1 := ⟨j - 1, by omega⟩
                              have wk : IntKind.i64.wrap ((j : Int) - 1) = (k : Int) := by rw [IntKind.wrap_i64]; omega
                              have wj1 : IntKind.i64.wrap ((j : Int) + 1) = ((j + 1 : Nat) : Int) := by rw [IntKind.wrap_i64]; omega
                              have hjn' : j < n := by omega
                              have hkn' : k < n := by omega
                              have j0' : (0 : Int) ≤ (j : Int) := by omega
                              have j2 : (j : Int) < (n : Int) := by omega
                              have k0' : (0 : Int) ≤ (k : Int) := by omega
                              have k2 : (k : Int) < (n : Int) := by omega
                              have HKK := hid hk
                              clear hk
                              go_upto_region 22 with fail
                              refine reg_any3 [106, 107, 108, 109, 110, 111, 112, 113, 114, 115, 116] (fun t X => Hid (∃ β : Bool, t 116 = .bool β ∧ (β = true → (True) ∧ Sp w0 X g n (fun l => Go.Sort.partialIns lt a b s i l.toArray = RR)) ∧ (β = false → Sp w0 X g n (fun l => Go.Sort.partialIns lt a b s i (Go.Sort.shiftUp lt b (j + 1) (sw l j k).toArray) = RR)))) ?_ ?_
                              · obtain ⟨l, p1, u1, k1⟩ := HS.out
                                have U1 := hid u1
                                have K1 := hid k1
                                have HP := hid (show (((!decide (gd l j < gd l k))) = true → (fun l => Go.Sort.partialIns lt a b s i l.toArray = RR) l) ∧ (((!decide (gd l j < gd l k))) = false → (fun l => Go.Sort.partialIns lt a b s i (Go.Sort.shiftUp lt b (j + 1) (sw l j k).toArray) = RR) l) from up_go HKK.out hjb (fun d => Go.Sort.partialIns lt a b s i d = RR) p1)
                                obtain ⟨y, hy⟩ : ∃ y, gd l j = y := ⟨_, rfl⟩
                                have cy : wr.cell? ⟨g, j, none⟩ = some (.int .u64 y) := by rw [← hy]; exact u1.cell hjn'
                                rw [hy] at HP
                                clear hy
                                obtain ⟨z, hz⟩ : ∃ y, gd l k = y := ⟨_, rfl⟩
                                have cz : wr.cell? ⟨g, k, none⟩ = some (.int .u64 z) := by rw [← hz]; exact u1.cell hkn'
                                rw [hz] at HP
                                clear hz
                                clear p1 u1 k1
                                go_quiet (first | (go_at_call 63; with_reducible exact Calls.quiet_of_same (less_any _ _ _)))
                                exact ⟨by kernel_rfl, hid ⟨_, by rfl, fun hb => ⟨trivial, l, HP.out.1 hb, U1.out.same (w' := wr.drewN nq) rfl, K1.out.trans (Kp.drewN _ wr nq) (fun _ _ e => e)⟩, fun hb => ⟨l, HP.out.2 hb, U1.out.same (w' := wr.drewN nq) rfl, K1.out.trans (Kp.drewN _ wr nq) (fun _ _ e => e)⟩⟩⟩
                              · rintro t X HB
                                obtain ⟨β, eβ, hβ, hγ⟩ := HB.out
                                simp only [puts, List.foldl_cons, List.foldl_nil, Act.put, List.setIfInBounds_toArray, List.set_cons_zero, List.set_cons_succ]
                                rw [eβ]
                                clear eβ HB
                                clear HS
                                cases β with
                                | true =>
                                  have HS := hid (hβ rfl).2
                                  clear hβ hγ
                                  have HS2 := hid (show Sp w0 X g n (fun l => Go.Sort.partialIns lt a b (5 - (c + 1)) i l.toArray = RR) from HS.out.mono (fun l _ hl => by rw [show 5 - (c + 1) = s by have := HSS.out; omega]; exact hl))
                                  clear HS
                                  go_wp2
                                  go_roundw
                                  case rel => exact ⟨i, c + 1, by go_num, by go_num, by omega, by omega, by omega, HS2⟩
                                  case measure => first | (simp [intOf]; done) | (simp [intOf]; omega)
                                | false =>
                                  have HS := hid (hγ rfl)
                                  clear hβ hγ
                                  obtain ⟨l, p1, u1, k1⟩ := HS.out
                                  have P1 := hid (show (fun l => Go.Sort.partialIns lt a b s i (Go.Sort.shiftUp lt b (j + 1) l.toArray) = RR) (sw l j k) from p1)
                                  have U1 := hid u1
                                  have K1 := hid k1
                                  have hin : j < n := by omega
                                  have hjn : k < n := by omega
                                  have sj0 : (0 : Int) ≤ (j : Int) := by omega
                                  have sj2 : (j : Int) < (n : Int) := by omega
                                  have sk0 : (0 : Int) ≤ (k : Int) := by omega
                                  have sk2 : (k : Int) < (n : Int) := by omega
                                  clear p1 u1 k1 HS
                                  go_upto_region 23 with fail
                                  refine reg_any [117, 118, 119, 120, 121, 122, 123, 124, 125, 126, 127, 128, 129, 130, 131, 132] (fun X => Hid (Sp w0 X g n (fun l => Go.Sort.partialIns lt a b s i (Go.Sort.shiftUp lt b (j + 1) l.toArray) = RR))) ?_ ?_
                                  · have U2 := hid (U1.out.same (w' := X.drew) rfl)
                                    have K2 := hid (K1.out.trans (Kp.drew _ X) (fun _ _ e => e))
                                    obtain ⟨V, hV⟩ : ∃ U, X.drew = U := ⟨_, rfl⟩
                                    rw [hV] at U2 K2
                                    obtain ⟨xi, hxi⟩ : ∃ x, gd l j = x := ⟨_, rfl⟩
                                    obtain ⟨xj, hxj⟩ : ∃ x, gd l k = x := ⟨_, rfl⟩
                                    have ci : V.cell? ⟨g, j, none⟩ = some (.int .u64 xi) := by rw [← hxi]; exact U2.out.cell hin
                                    have cj : V.cell? ⟨g, k, none⟩ = some (.int .u64 xj) := by rw [← hxj]; exact U2.out.cell hjn
                                    have fi := U2.out.frz j
                                    have fj := U2.out.frz k
                                    have U3 := hid (U2.out.set hin xj)
                                    have cj3 := U3.out.cell hjn
                                    have fj3 := U3.out.frz k
                                    have HSW := hid (Sp.swap (F := fun l => Go.Sort.partialIns lt a b s i (Go.Sort.shiftUp lt b (j + 1) l.toArray) = RR) P1.out U2.out K2.out hin hjn)
                                    rw [hxi, hxj] at HSW
                                    refine wp_region_held_drew (S := fun _ => True) (by kernel_rfl) trivial (fun _ => ?_)
                                    rw [hV]
                                    clear hV hxi hxj
                                    refine' wpAnyH_take (i := 0) (oi := _) (v := _) rfl (by kernel_rfl) (by kernel_rfl) (by kernel_rfl) (fun _ _ _ h => h) (Or.inl ⟨by kernel_rfl, ?_⟩) (by trivial) ?_
                                    rotate_left
                                    · (intro w hSw; go_simp; try (with_reducible rfl))
                                    try simp only [List.getElem_toArray, List.getElem_cons_succ, List.getElem_cons_zero, Act.put, List.setIfInBounds_toArray, List.set_cons_zero, List.set_cons_succ]
                                    refine' wpAnyH_take (i := 1) (oi := _) (v := _) rfl (by kernel_rfl) (by kernel_rfl) (by kernel_rfl) (fun _ _ _ h => h) (Or.inl ⟨by kernel_rfl, ?_⟩) (by trivial) ?_
                                    rotate_left
                                    · (intro w hSw; go_simp; try (with_reducible rfl))
                                    try simp only [List.getElem_toArray, List.getElem_cons_succ, List.getElem_cons_zero, Act.put, List.setIfInBounds_toArray, List.set_cons_zero, List.set_cons_succ]
                                    refine' wpAnyH_take (i := 2) (oi := _) (v := _) rfl (by kernel_rfl) (by kernel_rfl) (by kernel_rfl) (fun _ _ _ h => h) (Or.inl ⟨by kernel_rfl, ?_⟩) (by trivial) ?_
                                    rotate_left
                                    · (intro w hSw; go_simp; try (with_reducible rfl))
                                    try simp only [List.getElem_toArray, List.getElem_cons_succ, List.getElem_cons_zero, Act.put, List.setIfInBounds_toArray, List.set_cons_zero, List.set_cons_succ]
                                    refine' wpAnyH_take (i := 3) (oi := _) (v := _) rfl (by kernel_rfl) (by kernel_rfl) (by kernel_rfl) (fun _ _ _ h => h) (Or.inl ⟨by kernel_rfl, ?_⟩) (by trivial) ?_
                                    rotate_left
                                    · (intro w hSw; go_simp; try (with_reducible rfl))
                                    try simp only [List.getElem_toArray, List.getElem_cons_succ, List.getElem_cons_zero, Act.put, List.setIfInBounds_toArray, List.set_cons_zero, List.set_cons_succ]
                                    refine' wpAnyH_take (i := 4) (oi := _) (v := _) rfl (by kernel_rfl) (by kernel_rfl) (by kernel_rfl) (fun _ _ _ h => h) (Or.inl ⟨by kernel_rfl, ?_⟩) (by trivial) ?_
                                    rotate_left
                                    · (intro w hSw; go_simp; try (with_reducible rfl))
                                    try simp only [List.getElem_toArray, List.getElem_cons_succ, List.getElem_cons_zero, Act.put, List.setIfInBounds_toArray, List.set_cons_zero, List.set_cons_succ]
                                    refine' wpAnyH_take (i := 5) (oi := _) (v := _) rfl (by kernel_rfl) (by kernel_rfl) (by kernel_rfl) (fun _ _ _ h => h) (Or.inl ⟨by kernel_rfl, ?_⟩) (by trivial) ?_
                                    rotate_left
                                    · (intro w hSw; go_simp; try (with_reducible rfl))
                                    try simp only [List.getElem_toArray, List.getElem_cons_succ, List.getElem_cons_zero, Act.put, List.setIfInBounds_toArray, List.set_cons_zero, List.set_cons_succ]
                                    refine' wpAnyH_take (i := 6) (oi := _) (v := _) rfl (by kernel_rfl) (by kernel_rfl) (by kernel_rfl) (fun _ _ _ h => h) (Or.inl ⟨by kernel_rfl, ?_⟩) (by trivial) ?_
                                    rotate_left
                                    · (intro w hSw; go_simp; try (with_reducible rfl))
                                    try simp only [List.getElem_toArray, List.getElem_cons_succ, List.getElem_cons_zero, Act.put, List.setIfInBounds_toArray, List.set_cons_zero, List.set_cons_succ]
                                    refine' wpAnyH_take (i := 7) (oi := _) (v := _) rfl (by kernel_rfl) (by kernel_rfl) (by kernel_rfl) (fun _ _ _ h => h) (Or.inl ⟨by kernel_rfl, ?_⟩) (by trivial) ?_
                                    rotate_left
                                    · (intro w hSw; go_simp; try (with_reducible rfl))
                                    try simp only [List.getElem_toArray, List.getElem_cons_succ, List.getElem_cons_zero, Act.put, List.setIfInBounds_toArray, List.set_cons_zero, List.set_cons_succ]
                                    refine' wpAnyH_take (i := 8) (oi := _) (v := _) rfl (by kernel_rfl) (by kernel_rfl) (by kernel_rfl) (fun _ _ _ h => h) (Or.inl ⟨by kernel_rfl, ?_⟩) (by trivial) ?_
                                    rotate_left
                                    · (intro w hSw; go_simp; try (with_reducible rfl))
                                    try simp only [List.getElem_toArray, List.getElem_cons_succ, List.getElem_cons_zero, Act.put, List.setIfInBounds_toArray, List.set_cons_zero, List.set_cons_succ]
                                    refine' wpAnyH_take (i := 10) (oi := _) (v := _) rfl (by kernel_rfl) (by kernel_rfl) (by kernel_rfl) (fun _ _ _ h => h) (Or.inl ⟨by kernel_rfl, ?_⟩) (by trivial) ?_
                                    rotate_left
                                    · (intro w hSw; go_simp; try (with_reducible rfl))
                                    try simp only [List.getElem_toArray, List.getElem_cons_succ, List.getElem_cons_zero, Act.put, List.setIfInBounds_toArray, List.set_cons_zero, List.set_cons_succ]
                                    refine' wpAnyH_take (i := 11) (oi := _) (v := _) rfl (by kernel_rfl) (by kernel_rfl) (by kernel_rfl) (fun _ _ _ h => h) (Or.inl ⟨by kernel_rfl, ?_⟩) (by trivial) ?_
                                    rotate_left
                                    · (intro w hSw; go_simp; try (with_reducible rfl))
                                    try simp only [List.getElem_toArray, List.getElem_cons_succ, List.getElem_cons_zero, Act.put, List.setIfInBounds_toArray, List.set_cons_zero, List.set_cons_succ]
                                    refine' wpAnyH_take (i := 12) (oi := _) (v := _) rfl (by kernel_rfl) (by kernel_rfl) (by kernel_rfl) (fun _ _ _ h => h) (Or.inl ⟨by kernel_rfl, ?_⟩) (by trivial) ?_
                                    rotate_left
                                    · (intro w hSw; go_simp; try (with_reducible rfl))
                                    try simp only [List.getElem_toArray, List.getElem_cons_succ, List.getElem_cons_zero, Act.put, List.setIfInBounds_toArray, List.set_cons_zero, List.set_cons_succ]
                                    refine wpAnyH_ready (rs := [9, 13]) (by kernel_rfl) (by simp) ?_
                                    refine (AllReadyH.cons (o := _) rfl (fun K hK => ?_) (AllReadyH.cons (o := _) rfl (fun K hK => ?_) AllReadyH.nil))
                                    · go_simp
                                      refine hK.out _ _ trivial (fun _ => ?_)
                                      clear hK K
                                      try simp only [List.getElem_toArray, List.getElem_cons_succ, List.getElem_cons_zero, Act.put, List.setIfInBounds_toArray, List.set_cons_zero, List.set_cons_succ]
                                      refine wpAnyH_ready (rs := [13]) (by kernel_rfl) (by simp) ?_
                                      refine (AllReadyH.cons (o := _) rfl (fun K hK => ?_) AllReadyH.nil)
                                      go_simp
                                      refine hK.out _ _ trivial (fun _ => ?_)
                                      clear hK K
                                      try simp only [List.getElem_toArray, List.getElem_cons_succ, List.getElem_cons_zero, Act.put, List.setIfInBounds_toArray, List.set_cons_zero, List.set_cons_succ]
                                      refine' wpAnyH_take (i := 14) (oi := _) (v := _) rfl (by kernel_rfl) (by kernel_rfl) (by kernel_rfl) (fun _ _ _ h => h) (Or.inl ⟨by kernel_rfl, ?_⟩) (by trivial) ?_
                                      rotate_left
                                      · (intro w hSw; go_simp; try (with_reducible rfl))
                                      try simp only [List.getElem_toArray, List.getElem_cons_succ, List.getElem_cons_zero, Act.put, List.setIfInBounds_toArray, List.set_cons_zero, List.set_cons_succ]
                                      refine wpAnyH_ready (rs := [15]) (by kernel_rfl) (by simp) ?_
                                      refine (AllReadyH.cons (o := _) rfl (fun K hK => ?_) AllReadyH.nil)
                                      go_simp
                                      refine hK.out _ _ trivial (fun _ => ?_)
                                      clear hK K
                                      try simp only [List.getElem_toArray, List.getElem_cons_succ, List.getElem_cons_zero, Act.put, List.setIfInBounds_toArray, List.set_cons_zero, List.set_cons_succ]
                                      refine' wpAnyH_take (i := 16) (oi := _) (v := _) rfl (by kernel_rfl) (by kernel_rfl) (by kernel_rfl) (fun _ _ _ h => h) (Or.inl ⟨by kernel_rfl, ?_⟩) (by trivial) ?_
                                      rotate_left
                                      · (intro w hSw; go_simp; try (with_reducible rfl))
                                      try simp only [List.getElem_toArray, List.getElem_cons_succ, List.getElem_cons_zero, Act.put, List.setIfInBounds_toArray, List.set_cons_zero, List.set_cons_succ]
                                      refine wpAnyH_ready (rs := [17]) (by kernel_rfl) (by simp) ?_
                                      refine (AllReadyH.cons (o := _) rfl (fun K hK => ?_) AllReadyH.nil)
                                      go_simp
                                      refine hK.out _ _ trivial (fun _ => ?_)
                                      clear hK K
                                      try simp only [List.getElem_toArray, List.getElem_cons_succ, List.getElem_cons_zero, Act.put, List.setIfInBounds_toArray, List.set_cons_zero, List.set_cons_succ]
                                      refine wpAnyH_done (by kernel_rfl) ?_ _
                                      exact ⟨by kernel_rfl, HSW⟩
                                    · go_simp
                                      refine hK.out _ _ trivial (fun _ => ?_)
                                      clear hK K
                                      try simp only [List.getElem_toArray, List.getElem_cons_succ, List.getElem_cons_zero, Act.put, List.setIfInBounds_toArray, List.set_cons_zero, List.set_cons_succ]
                                      refine wpAnyH_ready (rs := [9]) (by kernel_rfl) (by simp) ?_
                                      refine (AllReadyH.cons (o := _) rfl (fun K hK => ?_) AllReadyH.nil)
                                      go_simp
                                      refine hK.out _ _ trivial (fun _ => ?_)
                                      clear hK K
                                      try simp only [List.getElem_toArray, List.getElem_cons_succ, List.getElem_cons_zero, Act.put, List.setIfInBounds_toArray, List.set_cons_zero, List.set_cons_succ]
                                      refine' wpAnyH_take (i := 14) (oi := _) (v := _) rfl (by kernel_rfl) (by kernel_rfl) (by kernel_rfl) (fun _ _ _ h => h) (Or.inl ⟨by kernel_rfl, ?_⟩) (by trivial) ?_
                                      rotate_left
                                      · (intro w hSw; go_simp; try (with_reducible rfl))
                                      try simp only [List.getElem_toArray, List.getElem_cons_succ, List.getElem_cons_zero, Act.put, List.setIfInBounds_toArray, List.set_cons_zero, List.set_cons_succ]
                                      refine wpAnyH_ready (rs := [15]) (by kernel_rfl) (by simp) ?_
                                      refine (AllReadyH.cons (o := _) rfl (fun K hK => ?_) AllReadyH.nil)
                                      go_simp
                                      refine hK.out _ _ trivial (fun _ => ?_)
                                      clear hK K
                                      try simp only [List.getElem_toArray, List.getElem_cons_succ, List.getElem_cons_zero, Act.put, List.setIfInBounds_toArray, List.set_cons_zero, List.set_cons_succ]
                                      refine' wpAnyH_take (i := 16) (oi := _) (v := _) rfl (by kernel_rfl) (by kernel_rfl) (by kernel_rfl) (fun _ _ _ h => h) (Or.inl ⟨by kernel_rfl, ?_⟩) (by trivial) ?_
                                      rotate_left
                                      · (intro w hSw; go_simp; try (with_reducible rfl))
                                      try simp only [List.getElem_toArray, List.getElem_cons_succ, List.getElem_cons_zero, Act.put, List.setIfInBounds_toArray, List.set_cons_zero, List.set_cons_succ]
                                      refine wpAnyH_ready (rs := [17]) (by kernel_rfl) (by simp) ?_
                                      refine (AllReadyH.cons (o := _) rfl (fun K hK => ?_) AllReadyH.nil)
                                      go_simp
                                      refine hK.out _ _ trivial (fun _ => ?_)
                                      clear hK K
                                      try simp only [List.getElem_toArray, List.getElem_cons_succ, List.getElem_cons_zero, Act.put, List.setIfInBounds_toArray, List.set_cons_zero, List.set_cons_succ]
                                      refine wpAnyH_done (by kernel_rfl) ?_ _
                                      exact ⟨by kernel_rfl, HSW⟩
                                  · intro t X HS
                                    simp only [puts, List.foldl_cons, List.foldl_nil, Act.put, List.setIfInBounds_toArray, List.set_cons_zero, List.set_cons_succ]
                                    go_wp2
                                    go_roundw
                                    case rel => exact ⟨j + 1, by go_num, by omega, by omega, HS⟩
                                    case measure => first | (simp [intOf]; done) | (simp [intOf]; omega)
                            · have ijb : ¬ (j : Int) < (b : Int) := by omega
                              have djb : decide ((j : Int) < (b : Int)) = false := decide_eq_false ijb
                              have HSX := hid (HS.out.mono (G := fun l => Go.Sort.partialIns lt a b s i l.toArray = RR) (fun l _ hl => by rw [up_no hjb] at hl; exact hl))
                              clear HS
                              have HS := HSX
                              clear HSX
                              have HS2 := hid (show Sp w0 wr g n (fun l => Go.Sort.partialIns lt a b (5 - (c + 1)) i l.toArray = RR) from HS.out.mono (fun l _ hl => by rw [show 5 - (c + 1) = s by have := HSS.out; omega]; exact hl))
                              clear HS
                              go_wp2
                              go_roundw
                              case rel => exact ⟨i, c + 1, by go_num, by go_num, by omega, by omega, by omega, HS2⟩
                              case measure => first | (simp [intOf]; done) | (simp [intOf]; omega)
                        · have d2 : decide ((2 : Int) ≤ (b : Int) - (i : Int)) = false := decide_eq_false h2
                          have HSX := hid (HS.out.mono (G := fun l => Go.Sort.partialIns lt a b s i l.toArray = RR) (fun l _ hl => sd_n (by omega) hl))
                          clear HS
                          have HS := HSX
                          clear HSX
                          have HS2 := hid (show Sp w0 wr g n (fun l => Go.Sort.partialIns lt a b (5 - (c + 1)) i l.toArray = RR) from HS.out.mono (fun l _ hl => by rw [show 5 - (c + 1) = s by have := HSS.out; omega]; exact hl))
                          clear HS
                          go_wp2
                          go_roundw
                          case rel => exact ⟨i, c + 1, by go_num, by go_num, by omega, by omega, by omega, HS2⟩
                          case measure => first | (simp [intOf]; done) | (simp [intOf]; omega)
                  · have d1 : decide ((2 : Int) ≤ (i : Int) - (a : Int)) = false := decide_eq_false h1
                    have HSX := hid (HS.out.mono (G := fun l => siD a b s i l.toArray = RR) (fun l _ hl => sc_n (by omega) hl))
                    clear HS
                    have HS := HSX
                    clear HSX
                    have wbi : IntKind.i64.wrap ((b : Int) - (i : Int)) = (b : Int) - (i : Int) := by rw [IntKind.wrap_i64]; omega
                    by_cases h2 : 2 ≤ (b : Int) - (i : Int)
                    · have HSR := hid (HS.out.mono (G := fun l => Go.Sort.partialIns lt a b s i (Go.Sort.shiftUp lt b (i + 1) l.toArray) = RR) (fun l _ hl => sd_u (by omega) hl))
                      clear HS
                      have ri : (2 : Int) ≤ (b : Int) - (i : Int) := by omega
                      have wi2 : IntKind.i64.wrap ((i : Int) + 1) = ((i + 1 : Nat) : Int) := by rw [IntKind.wrap_i64]; omega
                      go_upto_region 20 with fail
                      go_loopw [10] (fun jv wr => ∃ j : Nat, jv = .int .i64 j ∧ 1 ≤ j ∧ j ≤ b ∧ Hid (Sp w0 wr g n (fun l => Go.Sort.partialIns lt a b s i (Go.Sort.shiftUp lt b j l.toArray) = RR))) (fun jv _ => b + 1 - (intOf jv).toNat)
                      case atStart => exact ⟨i + 1, rfl, by omega, by omega, HSR⟩
                      case round =>
                        clear HSR
                        obtain ⟨j, rfl, j0, j1, HS⟩ := hrel
                        by_cases hjb : j < b
                        · have ijb : (j : Int) < (b : Int) := by omega
                          obtain ⟨k, hk⟩ : ∃ k, j = k + 1 := ⟨j - 1, by omega⟩
                          have wk : IntKind.i64.wrap ((j : Int) - 1) = (k : Int) := by rw [IntKind.wrap_i64]; omega
                          have wj1 : IntKind.i64.wrap ((j : Int) + 1) = ((j + 1 : Nat) : Int) := by rw [IntKind.wrap_i64]; omega
                          have hjn' : j < n := by omega
                          have hkn' : k < n := by omega
                          have j0' : (0 : Int) ≤ (j : Int) := by omega
                          have j2 : (j : Int) < (n : Int) := by omega
                          have k0' : (0 : Int) ≤ (k : Int) := by omega
                          have k2 : (k : Int) < (n : Int) := by omega
                          have HKK := hid hk
                          clear hk
                          go_upto_region 22 with fail
                          refine reg_any3 [106, 107, 108, 109, 110, 111, 112, 113, 114, 115, 116] (fun t X => Hid (∃ β : Bool, t 116 = .bool β ∧ (β = true → (True) ∧ Sp w0 X g n (fun l => Go.Sort.partialIns lt a b s i l.toArray = RR)) ∧ (β = false → Sp w0 X g n (fun l => Go.Sort.partialIns lt a b s i (Go.Sort.shiftUp lt b (j + 1) (sw l j k).toArray) = RR)))) ?_ ?_
                          · obtain ⟨l, p1, u1, k1⟩ := HS.out
                            have U1 := hid u1
                            have K1 := hid k1
                            have HP := hid (show (((!decide (gd l j < gd l k))) = true → (fun l => Go.Sort.partialIns lt a b s i l.toArray = RR) l) ∧ (((!decide (gd l j < gd l k))) = false → (fun l => Go.Sort.partialIns lt a b s i (Go.Sort.shiftUp lt b (j + 1) (sw l j k).toArray) = RR) l) from up_go HKK.out hjb (fun d => Go.Sort.partialIns lt a b s i d = RR) p1)
                            obtain ⟨y, hy⟩ : ∃ y, gd l j = y := ⟨_, rfl⟩
                            have cy : wr.cell? ⟨g, j, none⟩ = some (.int .u64 y) := by rw [← hy]; exact u1.cell hjn'
                            rw [hy] at HP
                            clear hy
                            obtain ⟨z, hz⟩ : ∃ y, gd l k = y := ⟨_, rfl⟩
                            have cz : wr.cell? ⟨g, k, none⟩ = some (.int .u64 z) := by rw [← hz]; exact u1.cell hkn'
                            rw [hz] at HP
                            clear hz
                            clear p1 u1 k1
                            go_quiet (first | (go_at_call 63; with_reducible exact Calls.quiet_of_same (less_any _ _ _)))
                            exact ⟨by kernel_rfl, hid ⟨_, by rfl, fun hb => ⟨trivial, l, HP.out.1 hb, U1.out.same (w' := wr.drewN nq) rfl, K1.out.trans (Kp.drewN _ wr nq) (fun _ _ e => e)⟩, fun hb => ⟨l, HP.out.2 hb, U1.out.same (w' := wr.drewN nq) rfl, K1.out.trans (Kp.drewN _ wr nq) (fun _ _ e => e)⟩⟩⟩
                          · rintro t X HB
                            obtain ⟨β, eβ, hβ, hγ⟩ := HB.out
                            simp only [puts, List.foldl_cons, List.foldl_nil, Act.put, List.setIfInBounds_toArray, List.set_cons_zero, List.set_cons_succ]
                            rw [eβ]
                            clear eβ HB
                            clear HS
                            cases β with
                            | true =>
                              have HS := hid (hβ rfl).2
                              clear hβ hγ
                              have HS2 := hid (show Sp w0 X g n (fun l => Go.Sort.partialIns lt a b (5 - (c + 1)) i l.toArray = RR) from HS.out.mono (fun l _ hl => by rw [show 5 - (c + 1) = s by have := HSS.out; omega]; exact hl))
                              clear HS
                              go_wp2
                              go_roundw
                              case rel => exact ⟨i, c + 1, by go_num, by go_num, by omega, by omega, by omega, HS2⟩
                              case measure => first | (simp [intOf]; done) | (simp [intOf]; omega)
                            | false =>
                              have HS := hid (hγ rfl)
                              clear hβ hγ
                              obtain ⟨l, p1, u1, k1⟩ := HS.out
                              have P1 := hid (show (fun l => Go.Sort.partialIns lt a b s i (Go.Sort.shiftUp lt b (j + 1) l.toArray) = RR) (sw l j k) from p1)
                              have U1 := hid u1
                              have K1 := hid k1
                              have hin : j < n := by omega
                              have hjn : k < n := by omega
                              have sj0 : (0 : Int) ≤ (j : Int) := by omega
                              have sj2 : (j : Int) < (n : Int) := by omega
                              have sk0 : (0 : Int) ≤ (k : Int) := by omega
                              have sk2 : (k : Int) < (n : Int) := by omega
                              clear p1 u1 k1 HS
                              go_upto_region 23 with fail
                              refine reg_any [117, 118, 119, 120, 121, 122, 123, 124, 125, 126, 127, 128, 129, 130, 131, 132] (fun X => Hid (Sp w0 X g n (fun l => Go.Sort.partialIns lt a b s i (Go.Sort.shiftUp lt b (j + 1) l.toArray) = RR))) ?_ ?_
                              · have U2 := hid (U1.out.same (w' := X.drew) rfl)
                                have K2 := hid (K1.out.trans (Kp.drew _ X) (fun _ _ e => e))
                                obtain ⟨V, hV⟩ : ∃ U, X.drew = U := ⟨_, rfl⟩
                                rw [hV] at U2 K2
                                obtain ⟨xi, hxi⟩ : ∃ x, gd l j = x := ⟨_, rfl⟩
                                obtain ⟨xj, hxj⟩ : ∃ x, gd l k = x := ⟨_, rfl⟩
                                have ci : V.cell? ⟨g, j, none⟩ = some (.int .u64 xi) := by rw [← hxi]; exact U2.out.cell hin
                                have cj : V.cell? ⟨g, k, none⟩ = some (.int .u64 xj) := by rw [← hxj]; exact U2.out.cell hjn
                                have fi := U2.out.frz j
                                have fj := U2.out.frz k
                                have U3 := hid (U2.out.set hin xj)
                                have cj3 := U3.out.cell hjn
                                have fj3 := U3.out.frz k
                                have HSW := hid (Sp.swap (F := fun l => Go.Sort.partialIns lt a b s i (Go.Sort.shiftUp lt b (j + 1) l.toArray) = RR) P1.out U2.out K2.out hin hjn)
                                rw [hxi, hxj] at HSW
                                refine wp_region_held_drew (S := fun _ => True) (by kernel_rfl) trivial (fun _ => ?_)
                                rw [hV]
                                clear hV hxi hxj
                                refine' wpAnyH_take (i := 0) (oi := _) (v := _) rfl (by kernel_rfl) (by kernel_rfl) (by kernel_rfl) (fun _ _ _ h => h) (Or.inl ⟨by kernel_rfl, ?_⟩) (by trivial) ?_
                                rotate_left
                                · (intro w hSw; go_simp; try (with_reducible rfl))
                                try simp only [List.getElem_toArray, List.getElem_cons_succ, List.getElem_cons_zero, Act.put, List.setIfInBounds_toArray, List.set_cons_zero, List.set_cons_succ]
                                refine' wpAnyH_take (i := 1) (oi := _) (v := _) rfl (by kernel_rfl) (by kernel_rfl) (by kernel_rfl) (fun _ _ _ h => h) (Or.inl ⟨by kernel_rfl, ?_⟩) (by trivial) ?_
                                rotate_left
                                · (intro w hSw; go_simp; try (with_reducible rfl))
                                try simp only [List.getElem_toArray, List.getElem_cons_succ, List.getElem_cons_zero, Act.put, List.setIfInBounds_toArray, List.set_cons_zero, List.set_cons_succ]
                                refine' wpAnyH_take (i := 2) (oi := _) (v := _) rfl (by kernel_rfl) (by kernel_rfl) (by kernel_rfl) (fun _ _ _ h => h) (Or.inl ⟨by kernel_rfl, ?_⟩) (by trivial) ?_
                                rotate_left
                                · (intro w hSw; go_simp; try (with_reducible rfl))
                                try simp only [List.getElem_toArray, List.getElem_cons_succ, List.getElem_cons_zero, Act.put, List.setIfInBounds_toArray, List.set_cons_zero, List.set_cons_succ]
                                refine' wpAnyH_take (i := 3) (oi := _) (v := _) rfl (by kernel_rfl) (by kernel_rfl) (by kernel_rfl) (fun _ _ _ h => h) (Or.inl ⟨by kernel_rfl, ?_⟩) (by trivial) ?_
                                rotate_left
                                · (intro w hSw; go_simp; try (with_reducible rfl))
                                try simp only [List.getElem_toArray, List.getElem_cons_succ, List.getElem_cons_zero, Act.put, List.setIfInBounds_toArray, List.set_cons_zero, List.set_cons_succ]
                                refine' wpAnyH_take (i := 4) (oi := _) (v := _) rfl (by kernel_rfl) (by kernel_rfl) (by kernel_rfl) (fun _ _ _ h => h) (Or.inl ⟨by kernel_rfl, ?_⟩) (by trivial) ?_
                                rotate_left
                                · (intro w hSw; go_simp; try (with_reducible rfl))
                                try simp only [List.getElem_toArray, List.getElem_cons_succ, List.getElem_cons_zero, Act.put, List.setIfInBounds_toArray, List.set_cons_zero, List.set_cons_succ]
                                refine' wpAnyH_take (i := 5) (oi := _) (v := _) rfl (by kernel_rfl) (by kernel_rfl) (by kernel_rfl) (fun _ _ _ h => h) (Or.inl ⟨by kernel_rfl, ?_⟩) (by trivial) ?_
                                rotate_left
                                · (intro w hSw; go_simp; try (with_reducible rfl))
                                try simp only [List.getElem_toArray, List.getElem_cons_succ, List.getElem_cons_zero, Act.put, List.setIfInBounds_toArray, List.set_cons_zero, List.set_cons_succ]
                                refine' wpAnyH_take (i := 6) (oi := _) (v := _) rfl (by kernel_rfl) (by kernel_rfl) (by kernel_rfl) (fun _ _ _ h => h) (Or.inl ⟨by kernel_rfl, ?_⟩) (by trivial) ?_
                                rotate_left
                                · (intro w hSw; go_simp; try (with_reducible rfl))
                                try simp only [List.getElem_toArray, List.getElem_cons_succ, List.getElem_cons_zero, Act.put, List.setIfInBounds_toArray, List.set_cons_zero, List.set_cons_succ]
                                refine' wpAnyH_take (i := 7) (oi := _) (v := _) rfl (by kernel_rfl) (by kernel_rfl) (by kernel_rfl) (fun _ _ _ h => h) (Or.inl ⟨by kernel_rfl, ?_⟩) (by trivial) ?_
                                rotate_left
                                · (intro w hSw; go_simp; try (with_reducible rfl))
                                try simp only [List.getElem_toArray, List.getElem_cons_succ, List.getElem_cons_zero, Act.put, List.setIfInBounds_toArray, List.set_cons_zero, List.set_cons_succ]
                                refine' wpAnyH_take (i := 8) (oi := _) (v := _) rfl (by kernel_rfl) (by kernel_rfl) (by kernel_rfl) (fun _ _ _ h => h) (Or.inl ⟨by kernel_rfl, ?_⟩) (by trivial) ?_
                                rotate_left
                                · (intro w hSw; go_simp; try (with_reducible rfl))
                                try simp only [List.getElem_toArray, List.getElem_cons_succ, List.getElem_cons_zero, Act.put, List.setIfInBounds_toArray, List.set_cons_zero, List.set_cons_succ]
                                refine' wpAnyH_take (i := 10) (oi := _) (v := _) rfl (by kernel_rfl) (by kernel_rfl) (by kernel_rfl) (fun _ _ _ h => h) (Or.inl ⟨by kernel_rfl, ?_⟩) (by trivial) ?_
                                rotate_left
                                · (intro w hSw; go_simp; try (with_reducible rfl))
                                try simp only [List.getElem_toArray, List.getElem_cons_succ, List.getElem_cons_zero, Act.put, List.setIfInBounds_toArray, List.set_cons_zero, List.set_cons_succ]
                                refine' wpAnyH_take (i := 11) (oi := _) (v := _) rfl (by kernel_rfl) (by kernel_rfl) (by kernel_rfl) (fun _ _ _ h => h) (Or.inl ⟨by kernel_rfl, ?_⟩) (by trivial) ?_
                                rotate_left
                                · (intro w hSw; go_simp; try (with_reducible rfl))
                                try simp only [List.getElem_toArray, List.getElem_cons_succ, List.getElem_cons_zero, Act.put, List.setIfInBounds_toArray, List.set_cons_zero, List.set_cons_succ]
                                refine' wpAnyH_take (i := 12) (oi := _) (v := _) rfl (by kernel_rfl) (by kernel_rfl) (by kernel_rfl) (fun _ _ _ h => h) (Or.inl ⟨by kernel_rfl, ?_⟩) (by trivial) ?_
                                rotate_left
                                · (intro w hSw; go_simp; try (with_reducible rfl))
                                try simp only [List.getElem_toArray, List.getElem_cons_succ, List.getElem_cons_zero, Act.put, List.setIfInBounds_toArray, List.set_cons_zero, List.set_cons_succ]
                                refine wpAnyH_ready (rs := [9, 13]) (by kernel_rfl) (by simp) ?_
                                refine (AllReadyH.cons (o := _) rfl (fun K hK => ?_) (AllReadyH.cons (o := _) rfl (fun K hK => ?_) AllReadyH.nil))
                                · go_simp
                                  refine hK.out _ _ trivial (fun _ => ?_)
                                  clear hK K
                                  try simp only [List.getElem_toArray, List.getElem_cons_succ, List.getElem_cons_zero, Act.put, List.setIfInBounds_toArray, List.set_cons_zero, List.set_cons_succ]
                                  refine wpAnyH_ready (rs := [13]) (by kernel_rfl) (by simp) ?_
                                  refine (AllReadyH.cons (o := _) rfl (fun K hK => ?_) AllReadyH.nil)
                                  go_simp
                                  refine hK.out _ _ trivial (fun _ => ?_)
                                  clear hK K
                                  try simp only [List.getElem_toArray, List.getElem_cons_succ, List.getElem_cons_zero, Act.put, List.setIfInBounds_toArray, List.set_cons_zero, List.set_cons_succ]
                                  refine' wpAnyH_take (i := 14) (oi := _) (v := _) rfl (by kernel_rfl) (by kernel_rfl) (by kernel_rfl) (fun _ _ _ h => h) (Or.inl ⟨by kernel_rfl, ?_⟩) (by trivial) ?_
                                  rotate_left
                                  · (intro w hSw; go_simp; try (with_reducible rfl))
                                  try simp only [List.getElem_toArray, List.getElem_cons_succ, List.getElem_cons_zero, Act.put, List.setIfInBounds_toArray, List.set_cons_zero, List.set_cons_succ]
                                  refine wpAnyH_ready (rs := [15]) (by kernel_rfl) (by simp) ?_
                                  refine (AllReadyH.cons (o := _) rfl (fun K hK => ?_) AllReadyH.nil)
                                  go_simp
                                  refine hK.out _ _ trivial (fun _ => ?_)
                                  clear hK K
                                  try simp only [List.getElem_toArray, List.getElem_cons_succ, List.getElem_cons_zero, Act.put, List.setIfInBounds_toArray, List.set_cons_zero, List.set_cons_succ]
                                  refine' wpAnyH_take (i := 16) (oi := _) (v := _) rfl (by kernel_rfl) (by kernel_rfl) (by kernel_rfl) (fun _ _ _ h => h) (Or.inl ⟨by kernel_rfl, ?_⟩) (by trivial) ?_
                                  rotate_left
                                  · (intro w hSw; go_simp; try (with_reducible rfl))
                                  try simp only [List.getElem_toArray, List.getElem_cons_succ, List.getElem_cons_zero, Act.put, List.setIfInBounds_toArray, List.set_cons_zero, List.set_cons_succ]
                                  refine wpAnyH_ready (rs := [17]) (by kernel_rfl) (by simp) ?_
                                  refine (AllReadyH.cons (o := _) rfl (fun K hK => ?_) AllReadyH.nil)
                                  go_simp
                                  refine hK.out _ _ trivial (fun _ => ?_)
                                  clear hK K
                                  try simp only [List.getElem_toArray, List.getElem_cons_succ, List.getElem_cons_zero, Act.put, List.setIfInBounds_toArray, List.set_cons_zero, List.set_cons_succ]
                                  refine wpAnyH_done (by kernel_rfl) ?_ _
                                  exact ⟨by kernel_rfl, HSW⟩
                                · go_simp
                                  refine hK.out _ _ trivial (fun _ => ?_)
                                  clear hK K
                                  try simp only [List.getElem_toArray, List.getElem_cons_succ, List.getElem_cons_zero, Act.put, List.setIfInBounds_toArray, List.set_cons_zero, List.set_cons_succ]
                                  refine wpAnyH_ready (rs := [9]) (by kernel_rfl) (by simp) ?_
                                  refine (AllReadyH.cons (o := _) rfl (fun K hK => ?_) AllReadyH.nil)
                                  go_simp
                                  refine hK.out _ _ trivial (fun _ => ?_)
                                  clear hK K
                                  try simp only [List.getElem_toArray, List.getElem_cons_succ, List.getElem_cons_zero, Act.put, List.setIfInBounds_toArray, List.set_cons_zero, List.set_cons_succ]
                                  refine' wpAnyH_take (i := 14) (oi := _) (v := _) rfl (by kernel_rfl) (by kernel_rfl) (by kernel_rfl) (fun _ _ _ h => h) (Or.inl ⟨by kernel_rfl, ?_⟩) (by trivial) ?_
                                  rotate_left
                                  · (intro w hSw; go_simp; try (with_reducible rfl))
                                  try simp only [List.getElem_toArray, List.getElem_cons_succ, List.getElem_cons_zero, Act.put, List.setIfInBounds_toArray, List.set_cons_zero, List.set_cons_succ]
                                  refine wpAnyH_ready (rs := [15]) (by kernel_rfl) (by simp) ?_
                                  refine (AllReadyH.cons (o := _) rfl (fun K hK => ?_) AllReadyH.nil)
                                  go_simp
                                  refine hK.out _ _ trivial (fun _ => ?_)
                                  clear hK K
                                  try simp only [List.getElem_toArray, List.getElem_cons_succ, List.getElem_cons_zero, Act.put, List.setIfInBounds_toArray, List.set_cons_zero, List.set_cons_succ]
                                  refine' wpAnyH_take (i := 16) (oi := _) (v := _) rfl (by kernel_rfl) (by kernel_rfl) (by kernel_rfl) (fun _ _ _ h => h) (Or.inl ⟨by kernel_rfl, ?_⟩) (by trivial) ?_
                                  rotate_left
                                  · (intro w hSw; go_simp; try (with_reducible rfl))
                                  try simp only [List.getElem_toArray, List.getElem_cons_succ, List.getElem_cons_zero, Act.put, List.setIfInBounds_toArray, List.set_cons_zero, List.set_cons_succ]
                                  refine wpAnyH_ready (rs := [17]) (by kernel_rfl) (by simp) ?_
                                  refine (AllReadyH.cons (o := _) rfl (fun K hK => ?_) AllReadyH.nil)
                                  go_simp
                                  refine hK.out _ _ trivial (fun _ => ?_)
                                  clear hK K
                                  try simp only [List.getElem_toArray, List.getElem_cons_succ, List.getElem_cons_zero, Act.put, List.setIfInBounds_toArray, List.set_cons_zero, List.set_cons_succ]
                                  refine wpAnyH_done (by kernel_rfl) ?_ _
                                  exact ⟨by kernel_rfl, HSW⟩
                              · intro t X HS
                                simp only [puts, List.foldl_cons, List.foldl_nil, Act.put, List.setIfInBounds_toArray, List.set_cons_zero, List.set_cons_succ]
                                go_wp2
                                go_roundw
                                case rel => exact ⟨j + 1, by go_num, by omega, by omega, HS⟩
                                case measure => first | (simp [intOf]; done) | (simp [intOf]; omega)
                        · have ijb : ¬ (j : Int) < (b : Int) := by omega
                          have djb : decide ((j : Int) < (b : Int)) = false := decide_eq_false ijb
                          have HSX := hid (HS.out.mono (G := fun l => Go.Sort.partialIns lt a b s i l.toArray = RR) (fun l _ hl => by rw [up_no hjb] at hl; exact hl))
                          clear HS
                          have HS := HSX
                          clear HSX
                          have HS2 := hid (show Sp w0 wr g n (fun l => Go.Sort.partialIns lt a b (5 - (c + 1)) i l.toArray = RR) from HS.out.mono (fun l _ hl => by rw [show 5 - (c + 1) = s by have := HSS.out; omega]; exact hl))
                          clear HS
                          go_wp2
                          go_roundw
                          case rel => exact ⟨i, c + 1, by go_num, by go_num, by omega, by omega, by omega, HS2⟩
                          case measure => first | (simp [intOf]; done) | (simp [intOf]; omega)
                    · have d2 : decide ((2 : Int) ≤ (b : Int) - (i : Int)) = false := decide_eq_false h2
                      have HSX := hid (HS.out.mono (G := fun l => Go.Sort.partialIns lt a b s i l.toArray = RR) (fun l _ hl => sd_n (by omega) hl))
                      clear HS
                      have HS := HSX
                      clear HSX
                      have HS2 := hid (show Sp w0 X g n (fun l => Go.Sort.partialIns lt a b (5 - (c + 1)) i l.toArray = RR) from HS.out.mono (fun l _ hl => by rw [show 5 - (c + 1) = s by have := HSS.out; omega]; exact hl))
                      clear HS
                      go_wp2
                      go_roundw
                      case rel => exact ⟨i, c + 1, by go_num, by go_num, by omega, by omega, by omega, HS2⟩
                      case measure => first | (simp [intOf]; done) | (simp [intOf]; omega)
    · have ic5 : ¬ (c : Int) < 5 := by omega
      have dc5 : decide ((c : Int) < 5) = false := decide_eq_false ic5
      have HE := hid (show false = RR.2 ∧ Sp w0 wr g n (fun l => l.toArray = RR.1) from by
        obtain ⟨l, p1, u1, k1⟩ := HS.out
        have e := (show (l.toArray, false) = RR by rw [show 5 - c = 0 by omega] at p1; exact p1)
        exact ⟨by rw [← e], l, by rw [← e], u1, k1⟩)
      clear HS
      go_wp2
      go_ret
      first | exact ⟨false, rfl, HE.out⟩ | exact ⟨rfl, HE.out⟩ | exact .inl ⟨rfl, HE.out⟩ | exact .inr ⟨rfl, HE.out⟩ | exact .inl ⟨rfl, HE.out.1.symm, HE.out.2⟩ | exact .inr ⟨rfl, HE.out.1.symm, HE.out.2⟩ | (refine ⟨.inl ⟨?_, HE.out.1⟩, HE.out.2⟩; first | rfl | (simp; done)) | (refine ⟨.inr ⟨?_, HE.out.1⟩, HE.out.2⟩; first | rfl | (simp; done)) | (refine .inl ⟨?_, HE.out⟩; first | rfl | (simp; done)) | (refine .inr ⟨?_, HE.out⟩; first | rfl | (simp; done)) | exact ⟨by rw [← HE.out.1]; rfl, HE.out.2⟩ | (refine ⟨?_, HE.out.2⟩; rw [← HE.out.1]; simp; done) | (refine ⟨?_, HE.out⟩; first | rfl | (simp; done))
end Go.Proofs.YtjpkodllemoniaaDoor.Sr
