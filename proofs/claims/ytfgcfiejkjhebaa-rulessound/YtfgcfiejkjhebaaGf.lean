/-
  A small book trades.
-/
import Derived.Test.YtfgcfiejkjhebaaGe
import Derived.Test.YtfgcfiejkjhebaaRuDb
import Derived.Test.YtfgcfiejkjhebaaRuNw
namespace Go.Proofs.Ytfgcfiejkjhebaa
open Go.RowKit Go.Deep Go.Shelf
set_option linter.unusedVariables false
set_option linter.unusedSimpArgs false
set_option maxHeartbeats 8000000
set_option maxRecDepth 100000
def cA : Cm := ⟨1, 1, 0, 0, 2, 1, 10, 5, 0⟩
def cB : Cm := ⟨1, 2, 0, 0, 1, 3, 11, 7, 0⟩
def oA : Or := ⟨1, 0, 1, 10, 5, 0, 0⟩
theorem did_A {b b' : Bs} {es : List Ev} (h1 : b.l1 = []) (h2 : b.l2 = []) (hc : b.cap = 4) (hm : b.meet = 0) (hh : b.high = 0) (h : Did b cA b' es) :
    es.length = 1 ∧ b'.l1 = [] ∧ (∃ blk, b'.l2 = [(blk, oA)]) ∧ b'.meet = 0 ∧ b'.high = 1 := by
  have e : cmN b cA = cA := rfl
  have r : rfs b cA = 0 := by
    simp [rfs, chk, chO, isSd, isPr, cA, cmN, rst, hc, hh, h1, h2]
  rcases h with ⟨n, _⟩ | ⟨_, k, _⟩ | ⟨_, _, ht⟩ | ⟨_, k, _⟩
  · exact absurd r n
  · exact absurd k (by decide)
  · rw [e] at ht
    rcases ht with ⟨k, _⟩ | ⟨_, n, hcm⟩
    · exact absurd k (by decide)
    · have hmt : mts (b.hgh (ord cA).id).told (ord cA) cA.sd = false := by
        show mtl _ _ (b.sl (oth 2)) = false
        have : b.sl (oth 2) = [] := h1
        rw [this]
        rfl
      rw [cms_end (by rintro ⟨_, x⟩; simp only at x; rw [hmt] at x; cases x)] at hcm
      rcases hcm with ⟨x, _⟩ | ⟨_, _, rfl, p', c', blk, _, rfl⟩ | ⟨_, x, _⟩
      · exact absurd (show (5 : Int) = 0 from x) (by decide)
      · refine ⟨rfl, h1, ⟨blk, ?_⟩, hm, rfl⟩
        show ins (bhd 2 10 b.l2) _ b.l2 = _
        rw [h2]
        rfl
      · exact absurd x (by decide)
  · exact absurd k (by decide)
theorem did_B {b b' : Bs} {es : List Ev} {blk : Nat} (h1 : b.l1 = []) (h2 : b.l2 = [(blk, oA)]) (hm : b.meet = 0) (hh : b.high = 1) (h : Did b cB b' es) :
    ∃ e0 e1 e2, es = [e0, e1, e2] ∧ e1.kd = 3 ∧ e1.qt = 5 ∧ e2.kd = 4 ∧ e2.qt = 2 ∧ b'.l1 = [] ∧ b'.l2 = [] := by
  have e : cmN b cB = cB := rfl
  have r : rfs b cB = 0 := by
    simp [rfs, chk, chO, isSd, isPr, cB, cmN, rst, hh]
  rcases h with ⟨n, _⟩ | ⟨_, k, _⟩ | ⟨_, _, ht⟩ | ⟨_, k, _⟩
  · exact absurd r n
  · exact absurd k (by decide)
  · rw [e] at ht
    rcases ht with ⟨k, _⟩ | ⟨_, n, hcm⟩
    · exact absurd k (by decide)
    · have hsl : (b.hgh (ord cB).id).told.sl (oth cB.sd) = (blk, oA) :: [] := h2
      have hmt : mts (b.hgh (ord cB).id).told (ord cB) cB.sd = true := by
        show mtl _ _ ((b.hgh (ord cB).id).told.sl (oth cB.sd)) = true
        rw [hsl]
        rfl
      rw [cms_step ⟨by decide, hmt⟩ hsl] at hcm
      have hpr : prt (b.hgh (ord cB).id).told (ord cB) oA = false := by
        show prt { b with high := _, seq := _ } _ _ = false
        simp [prt, hm]
      have hmB : mtB (b.hgh (ord cB).id).told (ord cB) cB.sd cB.qt blk oA [] = (((b.hgh (ord cB).id).told.told.put 2 ((b.hgh (ord cB).id).told.sp 2) ((b.hgh (ord cB).id).told.sc 2) []), [(evT (ord cB) 1 oA 5).num (nx (b.hgh (ord cB).id).told.seq)], 2) := by
        unfold mtB
        rw [if_pos hpr]
        rfl
      rw [hmB] at hcm
      simp only at hcm
      rw [cms_end (by rintro ⟨_, x⟩; cases x)] at hcm
      rcases hcm with ⟨x, _⟩ | ⟨_, x, _⟩ | ⟨_, _, rfl, rfl⟩
      · exact absurd (show (2 : Int) = 0 from x) (by decide)
      · exact absurd x (by decide)
      · exact ⟨_, _, _, rfl, rfl, rfl, rfl, rfl, h1, rfl⟩
  · exact absurd k (by decide)
/-- a play is on. -/
structure Pl (w : World) (B : Nat) (b : Bs) (U : World) : Prop where
  be : Below w.heap.size w U
  bm : Bm U B b
  gb : Gb b
  nw : ∀ j, b.fp B j → w.heap.size ≤ j
theorem Pl.on {w : World} {B : Nat} {b : Bs} {U V : World} (h : Pl w B b U) (hb : Below U.heap.size U V) : Pl w B b V := ⟨btr h.be hb, h.bm.on hb, h.gb, h.nw⟩
theorem pl_do {w : World} {B : Nat} {b : Bs} {U : World} (c : Cm) (h : Pl w B b U) (hc : CmOk c) :
    Calls Try.prog 7 #[.pointer (some ⟨B, 0, none⟩), .agg (cmr c)] U fun e w' => ∃ b' p q es', e = .returned (.slice p es'.length q) ∧ Pl w B b' w' ∧ w'.ownsRow 0 50 13 (.slice p es'.length q) es'.length (evs es') ∧ Did b c b' es' := by
  refine (do_any B b c U h.bm h.gb.vb hc).mono ?_
  rintro e w' ⟨T, b', ve', es', rfl, htd, hd⟩
  obtain ⟨p, q, rfl⟩ := own_form htd.tn.ev
  refine ⟨b', p, q, es', rfl, ⟨h.be.trans (htd.kp.below h.be.size (fun j hj hf => by have := h.nw j hf; omega)), htd.tn.bm, (hd.good h.gb hc).1, fun j hj => ?_⟩, htd.tn.ev, hd⟩
  rcases htd.fr j (.inr hj) with e | e
  · exact h.nw j e
  · exact Nat.le_trans h.be.size e
/-- a new book. -/
structure Fr (b : Bs) (cap meet : Int) : Prop where
  l1 : b.l1 = []
  l2 : b.l2 = []
  num : b.cap = cap ∧ b.meet = meet ∧ b.high = 0 ∧ b.seq = 0
theorem fr_gb {b : Bs} {cap meet : Int} (h : Fr b cap meet) (hc : cfg cap meet = true) : Gb b := by
  have hc' : 1 ≤ cap ∧ cap ≤ 4096 ∧ 0 ≤ meet ∧ meet ≤ 3 := of_decide_eq_true hc
  have hsl : ∀ S, b.sl S = [] := fun S => by unfold Bs.sl; split; exact h.l1; exact h.l2
  have hn := h.num.1
  refine ⟨⟨fun S y hy => (by rw [hsl] at hy; simp at hy), fun S _ => by rw [hsl, srt_pw]; exact List.Pairwise.nil, by unfold Ids; rw [h.l1, h.l2]; simp, by rw [h.l1, h.l2]; simp⟩, ?_, by omega, fun S y hy => (by rw [hsl] at hy; simp at hy)⟩
  unfold lns
  rw [h.l1, h.l2]
  simp
  omega
theorem pl_new (cap meet : Int) (w : World) :
    Calls Try.prog 11 #[.agg #[.int .i64 cap, .int .i64 meet]] w fun e w' => (cfg cap meet = false ∧ e = .returned (.tuple #[.pointer none, .int .i64 1]) ∧ Below w.heap.size w w') ∨ (cfg cap meet = true ∧ ∃ B b, e = .returned (.tuple #[.pointer (some ⟨B, 0, none⟩), .int .i64 0]) ∧ Pl w B b w' ∧ Fr b cap meet) := by
  refine (new_any cap meet w).mono ?_
  rintro e w' (⟨h1, h2, h3⟩ | ⟨h1, B, b, rfl, ho⟩)
  · exact .inl ⟨h1, h2, h3⟩
  · have hf : Fr b cap meet := ⟨List.map_eq_nil_iff.1 ho.o1, List.map_eq_nil_iff.1 ho.o2, ho.num⟩
    exact .inr ⟨h1, B, b, rfl, ⟨ho.be, ho.bm, fr_gb hf h1, ho.nw⟩, hf⟩
theorem okA : CmOk cA := ⟨by decide, by decide, by decide, by decide, by decide, by decide, by decide, by decide⟩
theorem okB : CmOk cB := ⟨by decide, by decide, by decide, by decide, by decide, by decide, by decide, by decide⟩
theorem lives_any (w : World) : Calls Try.prog 15 #[] w fun e w' => e = .returned (.bool true) ∧ Below w.heap.size w w' := by
  have CN := hid (show Calls Try.prog 11 #[.agg #[.int .i64 4, .int .i64 0]] w fun e w' => ∃ B b, e = .returned (.tuple #[.pointer (some ⟨B, 0, none⟩), .int .i64 0]) ∧ Pl w B b w' ∧ Fr b 4 0 from by
    refine (pl_new 4 0 w).mono ?_
    rintro e w' (⟨h, _⟩ | ⟨_, h⟩)
    · exact absurd h (by decide)
    · exact h)
  have CA := hid (fun (U : World) (B : Nat) (b : Bs) (h : Pl w B b U) (hf : Fr b 4 0) => (show Calls Try.prog 7 #[.pointer (some ⟨B, 0, none⟩), .agg (cmr cA)] U fun e w' => ∃ b' p q blk, e = .returned (.slice p 1 q) ∧ Pl w B b' w' ∧ b'.l1 = [] ∧ b'.l2 = [(blk, oA)] ∧ b'.meet = 0 ∧ b'.high = 1 from by
    refine (pl_do cA h okA).mono ?_
    rintro e w' ⟨b', p, q, es', rfl, h1, h2, h3⟩
    obtain ⟨g1, g2, ⟨blk, g3⟩, g4, g5⟩ := did_A hf.l1 hf.l2 hf.num.1 hf.num.2.1 hf.num.2.2.1 h3
    exact ⟨b', p, q, blk, by rw [g1], h1, g2, g3, g4, g5⟩))
  have CB := hid (fun (U : World) (B : Nat) (b : Bs) (blk : Nat) (h : Pl w B b U) (f1 : b.l1 = []) (f2 : b.l2 = [(blk, oA)]) (f3 : b.meet = 0) (f4 : b.high = 1) => (show Calls Try.prog 7 #[.pointer (some ⟨B, 0, none⟩), .agg (cmr cB)] U fun e w' => ∃ b' g q, e = .returned (.slice (some ⟨g, 0, none⟩) 3 q) ∧ Pl w B b' w' ∧ w'.cell? ⟨g, 14, none⟩ = some (.int .i64 3) ∧ w'.cell? ⟨g, 22, none⟩ = some (.int .u64 5) ∧ w'.cell? ⟨g, 27, none⟩ = some (.int .i64 4) ∧ w'.cell? ⟨g, 35, none⟩ = some (.int .u64 2) ∧ b'.l1 = [] ∧ b'.l2 = [] from by
    refine (pl_do cB h okB).mono ?_
    rintro e w' ⟨b', p, q, es', rfl, h1, h2, h3⟩
    obtain ⟨e0, e1, e2, rfl, g1, g2, g3, g4, g5, g6⟩ := did_B f1 f2 f3 f4 h3
    obtain ⟨g, cc, hp, _, _, k1⟩ := ev_cells h2 (i := 1) (by simp)
    obtain ⟨g', cc', hp', _, _, k2⟩ := ev_cells h2 (i := 2) (by simp)
    have hg := (Value.slice.inj hp).1
    have hg' := (Value.slice.inj hp').1
    rw [hg] at hg'
    injection hg' with hg'
    injection hg' with hg'
    subst hg'
    have a1 := k1 1 (by omega)
    have a2 := k1 9 (by omega)
    have a3 := k2 1 (by omega)
    have a4 := k2 9 (by omega)
    simp [ecs] at a1 a2 a3 a4
    rw [g1] at a1
    rw [g2] at a2
    rw [g3] at a3
    rw [g4] at a4
    exact ⟨b', g, q, by rw [hg]; rfl, h1, a1, a2, a3, a4, g5, g6⟩))
  have CL := hid (fun (U : World) (B : Nat) (b : Bs) (h : Pl w B b U) (f1 : b.l1 = []) (f2 : b.l2 = []) => (show Calls Try.prog 9 #[.pointer (some ⟨B, 0, none⟩)] U fun e w' => e = .returned (.int .i64 0) ∧ Below w.heap.size w w' from by
    refine (len_any B b U h.bm h.gb.vb.len).mono ?_
    rintro e w' ⟨rfl, n, rfl⟩
    exact ⟨by rw [f1, f2]; rfl, btr h.be (bdrew _ _)⟩))
  unfold cmr cA at CA
  unfold cmr cB at CB
  simp only at CA CB
  go_enter Try.func15, Try.ntmps15
  go_wp2_with (first | (go_at_call 11; with_reducible refine (CN.out).mono ?_; rintro e w1 ⟨B, b, rfl, h1, hf1⟩; have HCA := hid (CA.out w1 B b h1 hf1); clear h1 hf1) | (go_at_call 7; with_reducible refine (HCA.out).mono ?_; rintro e w2 ⟨b2, p2, q2, blk, rfl, h2, f1, f2, f3, f4⟩; have HCB := hid (CB.out w2 B b2 blk h2 f1 f2 f3 f4); clear h2 f1 f2 f3 f4) | (go_at_call 7; with_reducible refine (HCB.out).mono ?_; rintro e w3 ⟨b3, g3, q3, rfl, h3, d1, d2, d3, d4, f5, f6⟩; have HCL := hid (CL.out w3 B b3 h3 f5 f6); clear h3 f5 f6) | (go_at_call 9; with_reducible refine (HCL.out).mono ?_; rintro e w4 ⟨rfl, h4⟩; have H4 := hid h4; clear h4))
  go_ret
  exact ⟨rfl, H4.out⟩
end Go.Proofs.Ytfgcfiejkjhebaa
namespace Go.Proofs.Ytfgcfiejkjhebaa
open Go.RowKit Go.Deep Go.Shelf
set_option linter.unusedVariables false
set_option linter.unusedSimpArgs false
set_option maxHeartbeats 8000000
set_option maxRecDepth 100000
theorem Pl.back {w V : World} {B : Nat} {b : Bs} {U : World} (h : Pl V B b U) (hb : Below w.heap.size w V) : Pl w B b U :=
  ⟨btr hb h.be, h.bm, h.gb, fun j hj => Nat.le_trans hb.size (h.nw j hj)⟩
theorem begun_any (cap meet : Int) (w : World) :
    Calls Try.prog 6 #[.agg #[.int .i64 cap, .int .i64 meet]] w fun e w' => (cfg cap meet = false ∧ e = .returned (.tuple #[.pointer none, .bool true]) ∧ Below w.heap.size w w') ∨ (cfg cap meet = true ∧ ∃ B b, e = .returned (.tuple #[.pointer (some ⟨B, 0, none⟩), .bool true]) ∧ Pl w B b w' ∧ Fr b cap meet) := by
  have CL := hid (fun U => lives_any U)
  have CF := hid (fun U => fit_any cap meet U)
  have CN := hid (fun U => pl_new cap meet U)
  obtain ⟨v, hv⟩ : ∃ v, cfg cap meet = v := ⟨_, rfl⟩
  rw [hv] at CF CN ⊢
  clear hv
  have HB := hid (ball w (.cells #[.int .i64 cap, .int .i64 meet] 23))
  have hr := World.alloc_heap_new w (.cells #[.int .i64 cap, .int .i64 meet] 23)
  obtain ⟨W, hW⟩ : ∃ W, w.alloc (.cells #[.int .i64 cap, .int .i64 meet] 23) = W := ⟨_, rfl⟩
  rw [hW] at HB hr
  have HR := hid hr
  have HW := hid hW
  clear hr hW
  have HCE := hid (fun (U : World) (hU : Below W.heap.size W U) => (show U.cell? ⟨w.heap.size, 0, none⟩ = some (.int .i64 cap) ∧ U.cell? ⟨w.heap.size, 1, none⟩ = some (.int .i64 meet) from by
    have h := row_on HR.out hU
    have c0 := row_cell h 0
    have c1 := row_cell h 1
    simp only [List.getElem?_toArray, List.getElem?_cons_succ, List.getElem?_cons_zero] at c0 c1
    exact ⟨c0, c1⟩))
  cases v with
  | false =>
    have CN2 := hid (fun U => (CN.out U).mono (R' := fun e w' => e = .returned (.tuple #[.pointer none, .int .i64 1]) ∧ Below U.heap.size U w') (by
      rintro e w' (⟨_, h1, h2⟩ | ⟨h, _⟩)
      · exact ⟨h1, h2⟩
      · cases h))
    go_enter Try.func6, Try.ntmps6
    go_upto_region 1 with fail
    have e0 := HW.out
    rw [e0]
    clear e0
    go_wp2_with (first | (go_at_call 15; with_reducible refine (CL.out _).mono ?_; rintro e w1 ⟨rfl, hb1⟩; have HB1 := hid hb1; obtain ⟨c0, c1⟩ := HCE.out w1 hb1; clear hb1) | (go_at_call 11; with_reducible refine (CN2.out _).mono ?_; rintro e w2 ⟨rfl, hb2⟩; have HB2 := hid (btr HB1.out hb2); obtain ⟨d0, d1⟩ := HCE.out w2 HB2.out; clear hb2) | (go_at_call 16; with_reducible refine (CF.out w2).mono ?_; rintro e w3 ⟨rfl, hb3⟩; have HB3 := hid (btr HB2.out hb3); obtain ⟨f0, f1⟩ := HCE.out w3 HB3.out; clear hb3) | (go_at_call 16; with_reducible refine (CF.out w3).mono ?_; rintro e w4 ⟨rfl, hb4⟩; have HB4 := hid (btr HB3.out hb4); clear hb4))
    go_ret2
    first | exact .inl ⟨trivial, rfl, btr HB.out HB4.out⟩ | exact .inl ⟨rfl, rfl, btr HB.out HB4.out⟩
  | true =>
    have CN2 := hid (fun U => (CN.out U).mono (R' := fun e w' => ∃ B b, e = .returned (.tuple #[.pointer (some ⟨B, 0, none⟩), .int .i64 0]) ∧ Pl U B b w' ∧ Fr b cap meet) (by
      rintro e w' (⟨h, _⟩ | ⟨_, h⟩)
      · cases h
      · exact h))
    go_enter Try.func6, Try.ntmps6
    go_upto_region 1 with fail
    have e0 := HW.out
    rw [e0]
    clear e0
    go_wp2_with (first | (go_at_call 15; with_reducible refine (CL.out _).mono ?_; rintro e w1 ⟨rfl, hb1⟩; have HB1 := hid hb1; obtain ⟨c0, c1⟩ := HCE.out w1 hb1; clear hb1) | (go_at_call 11; with_reducible refine (CN2.out _).mono ?_; rintro e w2 ⟨B, b, rfl, h2, hf2⟩; have H2 := hid h2; have HF2 := hid hf2; have HB2 := hid (btr HB1.out h2.be); obtain ⟨d0, d1⟩ := HCE.out w2 HB2.out; clear h2 hf2) | (go_at_call 16; with_reducible refine (CF.out w2).mono ?_; rintro e w3 ⟨rfl, hb3⟩; have HB23 := hid hb3; have HB3 := hid (btr HB2.out hb3); obtain ⟨f0, f1⟩ := HCE.out w3 HB3.out; clear hb3) | (go_at_call 16; with_reducible refine (CF.out w3).mono ?_; rintro e w4 ⟨rfl, hb4⟩; have HB34 := hid hb4; clear hb4))
    go_ret2
    first | exact .inr ⟨trivial, B, b, rfl, (H2.out.back (btr HB.out HB1.out)).on (btr HB23.out HB34.out), HF2.out⟩ | exact .inr ⟨rfl, B, b, rfl, (H2.out.back (btr HB.out HB1.out)).on (btr HB23.out HB34.out), HF2.out⟩
end Go.Proofs.Ytfgcfiejkjhebaa
