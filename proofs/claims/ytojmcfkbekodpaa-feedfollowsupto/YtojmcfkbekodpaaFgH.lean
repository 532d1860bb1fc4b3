/-
  FgH
-/
import Derived.Test.YtojmcfkbekodpaaFgG
namespace Go.Proofs.Ytojmcfkbekodpaa.Fd
open Go.RowKit Go.Deep
set_option linter.unusedVariables false
set_option linter.unusedSimpArgs false
set_option maxHeartbeats 8000000
set_option maxRecDepth 100000
def lsL : List Lv := [⟨10, 5, 1⟩, ⟨11, 2, 1⟩, ⟨12, 9, 2⟩]
def lvB : List Lv := [⟨10, 5, 1⟩, ⟨11, 2, 1⟩]
def lm1 : Dm := ⟨1, 1, 2, 10, 5, 1⟩
def lm2 : Dm := ⟨2, 1, 2, 11, 2, 1⟩
theorem ls_rl (U : World) : Rl (U.alloc (.cells #[.int .i64 10, .int .u64 5, .int .i64 1, .int .i64 11, .int .u64 2, .int .i64 1, .int .i64 12, .int .u64 9, .int .i64 2] 71)) (some ⟨U.heap.size, 0, none⟩) 3 lsL := by
  refine ⟨(fun e => by cases e), by decide, by decide, ?_⟩
  intro ad e j u hj
  injection e with e
  subst e
  rw [Addr.add_lit, Nat.zero_add, row_cell (World.alloc_heap_new _ _)]
  simpa [lvc, lsL] using hj
theorem ls_ok : pubOk [] lsL [] = true := by decide
theorem ls_pM : pM 2 0 [] [] [] lsL [] = [lm1, lm2] := by
  unfold pM
  rw [if_pos ls_ok]
  unfold pubT
  have h1 : chg 1 [] (List.take 2 ([] : List Lv)) = [] := by simp [chg_nn]
  have h2 : chg 2 [] (List.take 2 lsL) = [tld 2 ⟨10, 5, 1⟩, tld 2 ⟨11, 2, 1⟩] := by
    show chg 2 [] [⟨10, 5, 1⟩, ⟨11, 2, 1⟩] = _
    rw [chg, chg, chg]
  rw [h1, h2]
  decide
theorem ls_pE : pE [] lsL [] = 0 := by unfold pE; rw [if_pos ls_ok]
theorem ls_pA : pA 2 [] [] lsL [] = [] := by unfold pA; rw [if_pos ls_ok]; rfl
theorem ls_pB : pB 2 [] [] lsL [] = lvB := by unfold pB; rw [if_pos ls_ok]; rfl
theorem ls_pS : pS 2 0 [] [] [] lsL [] = 2 := by
  have := congrArg List.length ls_pM
  unfold pM at this
  rw [if_pos ls_ok, nmb_len] at this
  unfold pS
  rw [if_pos ls_ok, this]
  decide
theorem not_none (g : Nat) : ¬ OfP none g := fun h => by cases h
theorem Re.empty (w : World) : Re w none 0 [] := ⟨fun _ => ⟨rfl, rfl⟩, Nat.le_refl _, Nat.zero_le _, fun _ h => by cases h⟩
theorem Sb.off {w : World} {S M nm : Nat} {sq hold gr : Int} {p1 : Option Addr} {c1 : Nat} {l1 : List Lv} {p2 : Option Addr} {c2 : Nat} {l2 : List Lv} {L : List Dm} {la : Dm} (h : Sb w S M nm sq hold gr p1 c1 l1 p2 c2 l2 L la) {g : Nat} {t : TypeId} {cs : Array Value} (hg : w.heap[g]? = some (.cells cs t (0, 0))) (ht : t ≠ 105) : ¬ (g = S ∨ g = M) := by
  rintro (e | e)
  · exact row_ne hg h.row ht e
  · exact map_ne h.hm hg e.symm
theorem Sb.off3 {w : World} {S M nm : Nat} {sq hold gr : Int} {p1 : Option Addr} {c1 : Nat} {l1 : List Lv} {p2 : Option Addr} {c2 : Nat} {l2 : List Lv} {L : List Dm} {la : Dm} (h : Sb w S M nm sq hold gr p1 c1 l1 p2 c2 l2 L la) {g : Nat} {t : TypeId} {cs : Array Value} (hg : w.heap[g]? = some (.cells cs t (0, 0))) (ht : t ≠ 105) : ¬ (g = S ∨ g = M ∨ OfP none g) := by
  rintro (e | e | e)
  · exact row_ne hg h.row ht e
  · exact map_ne h.hm hg e.symm
  · exact not_none _ e
theorem dw_some {b : Nat} {w : World} {p : Option Addr} {c : Nat} (h : Dw b w p c [lm1, lm2]) : ∃ g, p = some ⟨g, 0, none⟩ := by
  obtain ⟨g, e, _⟩ := h.cells (i := 0) (by decide)
  exact ⟨g, e⟩
theorem dw_two {b : Nat} {w : World} {g : Nat} {c : Nat} (h : Dw b w (some ⟨g, 0, none⟩) c [lm1, lm2]) : (w.cell? ⟨g, 0, none⟩ = some (.int .u64 1) ∧ w.cell? ⟨g, 1, none⟩ = some (.int .i64 1) ∧ w.cell? ⟨g, 2, none⟩ = some (.int .i64 2) ∧ w.cell? ⟨g, 3, none⟩ = some (.int .i64 10) ∧ w.cell? ⟨g, 4, none⟩ = some (.int .u64 5) ∧ w.cell? ⟨g, 5, none⟩ = some (.int .i64 1)) ∧ w.cell? ⟨g, 6, none⟩ = some (.int .u64 2) ∧ w.cell? ⟨g, 7, none⟩ = some (.int .i64 1) ∧ w.cell? ⟨g, 8, none⟩ = some (.int .i64 2) ∧ w.cell? ⟨g, 9, none⟩ = some (.int .i64 11) ∧ w.cell? ⟨g, 10, none⟩ = some (.int .u64 2) ∧ w.cell? ⟨g, 11, none⟩ = some (.int .i64 1) := by
  obtain ⟨g1, e1, _, a0, a1, a2, a3, a4, a5⟩ := h.cells (i := 0) (by decide)
  obtain ⟨g2, e2, _, b0, b1, b2, b3, b4, b5⟩ := h.cells (i := 1) (by decide)
  injection e1 with e1
  injection e1 with e1
  injection e2 with e2
  injection e2 with e2
  subst e1
  subst e2
  exact ⟨⟨a0, a1, a2, a3, a4, a5⟩, b0, b1, b2, b3, b4, b5⟩
theorem lv_ok1 : Lok 2 ([] ++ [(⟨lm1.pr, lm1.qt, lm1.ct⟩ : Lv)]) := (lok_iff _ _).1 (by decide)
theorem lv_ok2 : Lok 2 ([] ++ [(⟨lm1.pr, lm1.qt, lm1.ct⟩ : Lv)] ++ [(⟨lm2.pr, lm2.qt, lm2.ct⟩ : Lv)]) := (lok_iff _ _).1 (by decide)
theorem take_first {V : World} {S M : Nat} (h : Sb V S M 0 0 3 0 none 0 [] none 0 [] [] dm0) : Calls Try.prog 17 #[.pointer (some ⟨S, 0, none⟩), .agg #[.int .u64 2, .int .i64 1, .int .i64 2, .int .i64 11, .int .u64 2, .int .i64 1]] V fun e w' => e = .returned (.int .i64 181) ∧ Sb w' S M 1 0 3 2 none 0 [] none 0 [] [lm2] dm0 ∧ Kp (fun g => g = S ∨ g = M) V w' :=
  (take_gap h lm2 (by decide) (by decide) (by decide) (by decide) (by decide) (by decide) (by decide)).mono (fun e w' hh => hh)
theorem take_second {V : World} {S M : Nat} (h : Sb V S M 1 0 3 2 none 0 [] none 0 [] [lm2] dm0) : Calls Try.prog 17 #[.pointer (some ⟨S, 0, none⟩), .agg #[.int .u64 1, .int .i64 1, .int .i64 2, .int .i64 10, .int .u64 5, .int .i64 1]] V fun e w' => e = .returned (.int .i64 0) ∧ ∃ q c', Sb w' S M 1 2 3 2 none 0 [] q c' lvB [] dm0 ∧ Kp (fun g => g = S ∨ g = M ∨ OfP none g) V w' :=
  (take_next h lm1 (by decide) (by decide) (by decide) (by decide) (by decide) (by decide) (by decide) (by decide) (fun k hk => absurd hk (by simp)) lv_ok1 not_none lm2 (by decide) (by decide) (by simp) (by decide) (by decide) (by decide) (by decide) (fun k hk => by
    have : k = 0 := by simp at hk; omega
    subst this
    rfl) lv_ok2).mono (fun e w' hh => hh)
theorem lives_ok (w : World) : Calls Try.prog 7 #[] w fun e w' => e = .returned (.bool true) ∧ Below w.heap.size w w' := by
  have C1 := hid (show Calls Try.prog 8 #[.int .i64 2] w _ from newP_ok 2 (by decide) (by decide) w)
  have C2 := hid (show ∀ U, Calls Try.prog 16 #[.int .i64 3] U _ from fun U => newS_ok 3 (by decide) U)
  go_enter Try.func7, Try.ntmps7
  go_upto_region 3 with (first | (go_at_call 8; with_reducible refine (C1.out).mono ?_; rintro e w1 ⟨B, rfl, h1, h2, h3⟩; have P1 := hid h1; have P2 := hid h2; have P3 := hid h3; clear h1 h2 h3) | (go_at_call 16; with_reducible refine (C2.out _).mono ?_; rintro e w2 ⟨S, M, rfl, h1, h2, h3, h4⟩; have S1 := hid h1; have S2 := hid h2; have S3 := hid h3; have S4 := hid h4; clear h1 h2 h3 h4))
  clear C1 C2
  go_upto_region 5 with fail
  obtain ⟨W, hW⟩ : ∃ W, w2.alloc (.cells #[.int .i64 10, .int .u64 5, .int .i64 1, .int .i64 11, .int .u64 2, .int .i64 1, .int .i64 12, .int .u64 9, .int .i64 2] 71) = W := ⟨_, rfl⟩
  have BW := hid (show Below w2.heap.size w2 W from by rw [← hW]; exact ball _ _)
  have SW := hid (S1.out.on BW.out)
  have PW := hid ((P1.out.on S4.out).on BW.out)
  have B0 := hid (btr (btr P3.out S4.out) BW.out)
  have S2' := hid (Nat.le_trans P3.out.size S2.out)
  have S3' := hid (Nat.le_trans P3.out.size S3.out)
  have CP := hid (show Calls Try.prog 11 #[.pointer (some ⟨B, 0, none⟩), .slice none 0 0, .slice (some ⟨w2.heap.size, 0, none⟩) 3 3, .slice none 0 0] W fun e w' => ∃ q dd q1 e1 q2 e2, e = .returned (.tuple #[.slice q 2 dd, .int .i64 0]) ∧ Dw W.heap.size w' q dd [lm1, lm2] ∧ Pb w' B 2 2 q1 e1 [] q2 e2 lvB ∧ Kp (fun b => b = B) W w' ∧ Lo 0 w' q1 e1 [] ∧ Lo 0 w' q2 e2 lvB from by
    have h := publish_all B 2 0 none none none (some ⟨w2.heap.size, 0, none⟩) none 0 0 0 3 0 [] [] [] lsL [] W PW.out (Rl.empty _) (by rw [← hW]; exact ls_rl w2) (Re.empty _) (by simp) (Lo.nil0 _ _) (Lo.nil0 _ _)
    rw [ls_pM, ls_pE, ls_pA, ls_pB, ls_pS] at h
    exact h.mono (fun e w' hh => by obtain ⟨q, dd, q1, e1, q2, e2, a1, a2, a3, a4, a5, a6, _, _⟩ := hh; exact ⟨q, dd, q1, e1, q2, e2, a1, a2, a3, a4, a5, a6⟩))
  go_upto_region 6 with (go_at_call 11; with_reducible refine (CP.out).mono ?_; rintro e W3 ⟨q, dd, q1, e1, q2, e2, rfl, h1, h2, h3, h4, h5⟩; have DW := hid h1; have PB := hid h2; have KW := hid h3; have L1 := hid h4; have L2 := hid h5; clear h1 h2 h3 h4 h5)
  clear CP hW
  have SW3 := hid (SW.out.kept KW.out (fun e => row_ne SW.out.row PW.out.row (by decide) e) (fun e => map_ne SW.out.hm PW.out.row e) (fun g hg => (not_none g hg).elim) (fun g hg => (not_none g hg).elim))
  have B3 := hid (show Below w.heap.size w W3 from B0.out.trans (KW.out.below B0.out.size (fun g hg e => by have := P2.out; have e' : g = B := e; omega)))
  obtain ⟨g, rfl⟩ := dw_some DW.out
  obtain ⟨⟨a0, a1, a2, a3, a4, a5⟩, b0, b1, b2, b3, b4, b5⟩ := dw_two DW.out
  have qq : ∀ U, (Op.equalIn 10000 47 (.agg #[.int .u64 2, .int .i64 1, .int .i64 2, .int .i64 11, .int .u64 2, .int .i64 1]) (.agg #[.int .u64 2, .int .i64 1, .int .i64 2, .int .i64 11, .int .u64 2, .int .i64 1])).run Try.prog U = .ok true U := fun U => eqD_same lm2 U
  go_upto_region 8 with fail
  have T1 := hid (take_first SW3.out)
  go_wp2_with (first
    | (go_at_call 17; with_reducible refine (T1.out).mono ?_; rintro e V1 ⟨rfl, h1, h2⟩; have F1 := hid h1; have F2 := hid h2; clear h1 h2
       have CG := hid (show Calls Try.prog 19 #[.pointer (some ⟨S, 0, none⟩)] V1 fun e w' => e = .returned (.bool false) ∧ Hid (Below V1.heap.size V1 w') from (good_any F1.out).mono (fun e w' hh => by obtain ⟨h1, n, rfl⟩ := hh; exact ⟨h1, hid (bdrew _ _)⟩)))
    | (go_at_call 19; with_reducible refine (CG.out).mono ?_; rintro e V2 ⟨rfl, BV2⟩
       have F1' := hid (F1.out.on BV2.out)
       have T2 := hid (take_second F1'.out)
       have DW2 := hid ((DW.out.kept F2.out (fun g hg e => by obtain ⟨cu, hc⟩ := DW.out.ty hg; exact SW3.out.off hc (by decide) e)).on BV2.out)
       clear a0 a1 a2 a3 a4 a5 b0 b1 b2 b3 b4 b5
       obtain ⟨⟨a0, a1, a2, a3, a4, a5⟩, b0, b1, b2, b3, b4, b5⟩ := dw_two DW2.out)
    | (go_at_call 17; with_reducible refine (T2.out).mono ?_; rintro e V3 ⟨rfl, q', c', h1, h2⟩; have G1 := hid h1; have G2 := hid h2; clear h1 h2
       have CG2 := hid (show Calls Try.prog 19 #[.pointer (some ⟨S, 0, none⟩)] V3 fun e w' => e = .returned (.bool true) ∧ Hid (Below V3.heap.size V3 w') from (good_any G1.out).mono (fun e w' hh => by obtain ⟨h1, n, rfl⟩ := hh; exact ⟨h1, hid (bdrew _ _)⟩)))
    | (go_at_call 19; with_reducible refine (CG2.out).mono ?_; rintro e V4 ⟨rfl, BV4⟩
       have G1' := hid (G1.out.on BV4.out)
       have CS := hid (show Calls Try.prog 21 #[.pointer (some ⟨S, 0, none⟩)] V4 fun e w' => ∃ u1 d1 u2 d2, e = .returned (.agg #[.int .u64 2, .slice u1 0 d1, .slice u2 2 d2]) ∧ Hid (Rl w' u1 d1 []) ∧ Hid (Rl w' u2 d2 lvB) ∧ Hid (Below V4.heap.size V4 w') from by
         obtain ⟨k0, k1, k2, k3, k4, k5⟩ := row12 G1'.out.row
         exact (pictureS_any S #[] 2 none q' 0 c' [] lvB V4 k0 k1 k2 (row_lt G1'.out.row) G1'.out.o1.rl G1'.out.o2.rl (by decide) (by decide)).mono (fun e w' hh => by obtain ⟨u1, d1, u2, d2, h1, h2, h3, _, h5⟩ := hh; exact ⟨u1, d1, u2, d2, h1, hid h2.rl, hid h3.rl, hid h5⟩)))
    | (go_at_call 21; with_reducible refine (CS.out).mono ?_; rintro e V5 ⟨u1, d1, u2, d2, rfl, R1, R2, BV5⟩
       have CB := hid (show Calls Try.prog 13 #[.pointer (some ⟨B, 0, none⟩)] V5 fun e w' => ∃ v1 f1 v2 f2, e = .returned (.agg #[.int .u64 2, .slice v1 0 f1, .slice v2 2 f2]) ∧ Hid (Rl w' v1 f1 []) ∧ Hid (Rl w' v2 f2 lvB) ∧ Hid (Below V5.heap.size V5 w') from by
         have r1 := row_on (F2.out.row PB.out.row (fun e => SW3.out.off PB.out.row (by decide) e)) BV2.out
         have r2 := row_on (row_on (G2.out.row r1 (fun e => F1'.out.off3 r1 (by decide) e)) BV4.out) BV5.out
         have m1 : ∀ (p : Option Addr) (c : Nat) (l : List Lv), Lo 0 W3 p c l → Lo 0 V5 p c l := fun p c l h => by
           have x1 := (h.kept F2.out (fun g hg e => by obtain ⟨cu, hc⟩ := h.ty hg; exact SW3.out.off hc (by decide) e)).on BV2.out
           exact ((x1.kept G2.out (fun g hg e => by obtain ⟨cu, hc⟩ := x1.ty hg; exact F1'.out.off3 hc (by decide) e)).on BV4.out).on BV5.out
         exact (pictureP_any B 2 2 q1 q2 e1 e2 [] lvB V5 r2 (m1 _ _ _ L1.out).rl (m1 _ _ _ L2.out).rl (by decide) (by decide)).mono (fun e w' hh => by obtain ⟨u1, d1, u2, d2, h1, h2, h3, _, h5⟩ := hh; exact ⟨u1, d1, u2, d2, h1, hid h2.rl, hid h3.rl, hid h5⟩)))
    | (go_at_call 13; with_reducible refine (CB.out).mono ?_; rintro e V6 ⟨v1, f1, v2, f2, rfl, R3, R4, BV6⟩
       have CM := hid (show Calls Try.prog 20 #[.agg #[.int .u64 2, .slice u1 0 d1, .slice u2 2 d2], .agg #[.int .u64 2, .slice v1 0 f1, .slice v2 2 f2]] V6 fun e w' => e = .returned (.bool true) ∧ Below V6.heap.size V6 w' from samePicture_same 2 u1 u2 v1 v2 d1 d2 f1 f2 [] lvB V6 (R1.out.on BV6.out) (R2.out.on BV6.out) R3.out R4.out))
    | (go_at_call 20; with_reducible refine (CM.out).mono ?_; rintro e V7 ⟨rfl, h1⟩; have BV7 := hid h1; clear h1))
  go_ret
  refine ⟨rfl, ?_⟩
  have z1 : Below w.heap.size w V2 := btr (B3.out.trans (F2.out.below B3.out.size (fun g hg e => by have := S2'.out; have := S3'.out; rcases e with e | e <;> omega))) BV2.out
  have z2 : Below w.heap.size w V3 := z1.trans (G2.out.below z1.size (fun g hg e => by
    have := S2'.out
    have := S3'.out
    rcases e with e | e | e
    · omega
    · omega
    · exact not_none _ e))
  exact btr (btr (btr (btr z2 BV4.out) BV5.out) BV6.out) BV7.out
end Go.Proofs.Ytojmcfkbekodpaa.Fd
