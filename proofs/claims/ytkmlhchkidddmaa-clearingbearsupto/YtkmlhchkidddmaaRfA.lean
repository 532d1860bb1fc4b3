/-
  The document's Sum.
-/
import Derived.Test.YtkmlhchkidddmaaBigH
import Derived.Test.YtkmlhchkidddmaaShE
import Derived.Test.YtkmlhchkidddmaaShG
namespace Go.Proofs.Ytkmlhchkidddmaa.Ss
open Go.RowKit Go.Deep BigM
set_option linter.unusedVariables false
set_option linter.unusedSimpArgs false
set_option maxHeartbeats 8000000
set_option maxRecDepth 100000
attribute [local go_sem ↓] Go.wp_at_zero Go.wp_at_succ
theorem bn_nil (w : World) : Bn (w.alloc (.cells #[] 30)) (.slice (some ⟨w.heap.size, 0, none⟩) 0 0) 0 :=
  ⟨[], .inr ⟨w.heap.size, 0, 0, rfl, Nat.le_refl _, Nat.zero_le _, alloc_cells _ _, fun j hj => (by simp at hj)⟩, fun d hd => (by cases hd), fun h => (by simp at h), rfl⟩
theorem pw3 : (340282366920938463463374607431768211456 : Int) * 4294967296 ≤ pw 900 := by
  have h := pw_le 5 900 (by decide)
  have e : pw 5 = 340282366920938463463374607431768211456 * 4294967296 := rfl
  rw [e] at h
  exact h
theorem pw4 : (340282366920938463463374607431768211456 : Int) * 4294967296 ≤ pw 1000 := Int.le_trans pw3 (pw_le 900 1000 (by decide))
theorem sum_bd {l : List Int} (h : ∀ x ∈ l, Word x) : sumL l ≤ 18446744073709551616 * (l.length : Int) := by
  induction l with
  | nil => simp [sumL]
  | cons x l ih =>
    rw [sumL_cons, List.length_cons]
    have h1 := ih (fun y hy => h y (List.mem_cons_of_mem _ hy))
    have h2 := (h x List.mem_cons_self).2
    omega
theorem refSum_none (q : Option Addr) (cap : Nat) (w : World) : Calls Try.prog 18 #[.slice q 0 cap] w fun e w' => e = .returned (.tuple #[.int .u64 0, .int .i64 0]) ∧ Below w.heap.size w w' := by
  obtain ⟨W1, hW1⟩ : ∃ W, w.alloc (.cells #[] 30) = W := ⟨_, rfl⟩
  have B1 := hid (show Below w.heap.size w W1 from by rw [← hW1]; exact (Below.refl _ w).alloc (Nat.le_refl _) _)
  have N1 := hid (show Bn W1 (.slice (some ⟨w.heap.size, 0, none⟩) 0 0) 0 from by rw [← hW1]; exact bn_nil w)
  have HW1 := hid hW1
  clear hW1
  go_enter Try.func18, Try.ntmps18
  go_upto_region 3 with fail
  rw [HW1.out]
  go_loopw [4, 5] (fun sv iv wr => iv = .int .i64 0 ∧ Hid (Bn wr sv 0) ∧ Hid (Below w.heap.size w wr)) (fun _ _ _ => 0)
  case atStart => exact ⟨rfl, N1, B1⟩
  case round =>
    obtain ⟨rfl, BN, BW⟩ := hrel
    clear N1 B1
    go_wp2_with (go_at_call 15; with_reducible refine (word_any _ _ _ BN.out).mono ?_; rintro e w9 ⟨rfl, h1⟩; have h1 := h1.symm; subst h1)
    go_ret2
    exact ⟨rfl, BW.out⟩
theorem refSum_any (ws : List Int) (b off cap : Nat) (w : World) (hws : ∀ x ∈ ws, Word x) (hn : ws.length ≤ 1048576) (hr : Rw w b off ws) :
    Calls Try.prog 18 #[.slice (some ⟨b, off, none⟩) ws.length cap] w fun e w' => e = .returned (.tuple #[.int .u64 (sumV ws), .int .i64 (sumE ws)]) ∧ Below w.heap.size w w' := by
  obtain ⟨W1, hW1⟩ : ∃ W, w.alloc (.cells #[] 30) = W := ⟨_, rfl⟩
  have B1 := hid (show Below w.heap.size w W1 from by rw [← hW1]; exact (Below.refl _ w).alloc (Nat.le_refl _) _)
  have N1 := hid (show Bn W1 (.slice (some ⟨w.heap.size, 0, none⟩) 0 0) (sumL (ws.take 0)) from by rw [← hW1]; exact bn_nil w)
  have HTL := hid (show ∀ i, 0 ≤ sumL (ws.take i) ∧ sumL (ws.take i) < pw 1000 from fun i => by
    have h1 := sumL_take_le ws (fun x hx => (hws x hx).1) i
    have h2 := sum_bd hws
    have h3 := pw4
    omega)
  have HWD := hid (show ∀ i, i < ws.length → Word (gd ws i) from fun i hi => hws _ (gd_mem hi))
  obtain ⟨n, hnn⟩ : ∃ n, ws.length = n := ⟨_, rfl⟩
  have HL := hid hnn
  have HR := hid hr
  have HW1 := hid hW1
  rw [hnn] at hn HWD ⊢
  clear hW1 hr hws hnn
  go_enter Try.func18, Try.ntmps18
  go_upto_region 3 with fail
  rw [HW1.out]
  go_loopw [4, 5] (fun sv iv wr => ∃ i, i ≤ n ∧ iv = .int .i64 (i : Nat) ∧ Hid (Bn wr sv (sumL (ws.take i))) ∧ Hid (Below w.heap.size w wr)) (fun _ iv _ => n - (intOf iv).toNat)
  case atStart => exact ⟨0, Nat.zero_le _, rfl, N1, B1⟩
  case round =>
    obtain ⟨i, hin, rfl, BN, BW⟩ := hrel
    clear N1 B1
    by_cases hlt : i < n
    · have hi : i < ws.length := by rw [HL.out]; exact hlt
      have cw := (HR.out.on BW.out).2 i hi
      have hst := sumL_take_gd (ws := ws) hi (fun x => x)
      simp only [List.map_id'] at hst
      have wd := HWD.out i hlt
      have t0 := HTL.out i
      obtain ⟨x, hx⟩ : ∃ x, gd ws i = x := ⟨_, rfl⟩
      rw [hx] at cw hst wd
      have CO := hid (fun U => of_any x U wd)
      have i0 : (0 : Int) ≤ (i : Int) := by omega
      have i1 : (i : Int) < (n : Int) := by omega
      have wi : IntKind.i64.wrap ((i : Int) + 1) = ((i + 1 : Nat) : Int) := by rw [IntKind.wrap_i64]; omega
      have HST := hid hst
      have HLT := hid hlt
      have HX := hid (And.intro t0.2 (show x < pw 1000 from by have := wd.2; have := pw4; omega))
      clear hx hst wd t0 hi
      go_wp2_with (first | (go_at_call 17; with_reducible refine (CO.out _).mono ?_; rintro e w1 ⟨⟨u1, rfl, h1⟩, h2⟩; have H1 := hid h1; have H2 := hid h2; clear h1 h2) | (go_at_call 16; with_reducible refine (plus_any _ _ _ _ _ (BN.out.to H2.out) H1.out HX.out.1 HX.out.2).mono ?_; rintro e w2 ⟨⟨u2, rfl, h1⟩, h2⟩; have H3 := hid h1; have H4 := hid h2; clear h1 h2))
      go_roundw
      case rel => exact ⟨i + 1, HLT.out, by go_num, hid (by rw [HST.out]; exact H3.out), hid ((BW.out.trans (H2.out.mono BW.out.size)).trans (H4.out.mono (BW.out.trans (H2.out.mono BW.out.size)).size))⟩
      case measure => simp [intOf]; omega
    · obtain rfl : i = n := by omega
      have eT : sumL (ws.take i) = sumL ws := by rw [List.take_of_length_le (by rw [HL.out]; exact Nat.le_refl _)]
      rw [eT] at BN
      clear eT
      go_wp2_with (go_at_call 15; with_reducible refine (word_any _ _ _ BN.out).mono ?_; rintro e w9 ⟨rfl, h1⟩; have h1 := h1.symm; subst h1)
      go_ret2
      exact ⟨rfl, BW.out⟩
end Go.Proofs.Ytkmlhchkidddmaa.Ss
