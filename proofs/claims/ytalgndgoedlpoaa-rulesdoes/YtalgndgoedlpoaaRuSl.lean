/-
  RuSl
-/
import Derived.Test.YtalgndgoedlpoaaRuPh
import Derived.Test.YtalgndgoedlpoaaRuKw
namespace Go.Proofs.Ytalgndgoedlpoaa
open Go.RowKit Go.Deep Go.Shelf
set_option linter.unusedVariables false
set_option linter.unusedSimpArgs false
set_option maxHeartbeats 8000000
set_option maxRecDepth 100000
attribute [local go_sem ↓] Go.wp_at_zero Go.wp_at_succ
theorem trb_meet (b : Bs) (x : Or) (q : Int) : (trb b x q).meet = b.meet := by
 unfold trb
 split
 ·rfl
 ·split <;> rfl
theorem mtB_meet (b : Bs) (o : Or) (s q : Int) (f : Nat) (x : Or) (r : LO) : (mtB b o s q f x r).1.meet = b.meet := by
 unfold mtB
 split
 ·show (Bs.put _ _ _ _ _).meet = _
  rw [put_meet, trb_meet]
 ·split
  ·rfl
  ·split
   ·exact del_meet 0
   ·exact del_meet 0
theorem cms_meet {o : Or} {s : Int} : ∀ (n : Nat) (b : Bs) (es : List Ev) (q : Int), (cms o s n (b, es, q)).1.meet = b.meet
 | 0, b, es, q => rfl
 | n + 1, b, es, q => by
  by_cases hc : 0 < q ∧ mts b o s = true
  ·obtain ⟨f, x, r, hl⟩ := mts_cons hc.2
   rw [cms_step hc hl, cms_meet n]
   exact mtB_meet _ _ _ _ _ _ _
  ·rw [cms_end hc]
theorem took_meet {b : Bs} {es : List Ev} {o : Or} {s q : Int} {b' : Bs} {es' : List Ev} (h : Took b es o s q b' es') : b'.meet = b.meet := by
 rcases h with ⟨_, _, rfl, _⟩ | ⟨_, n, hc⟩
 ·rfl
 ·have h1 := cms_meet (o := o) (s := s) (mes b s q + 1) (b.hgh o.id).told (es ++ [(evA o s q).num (nx b.seq)]) q
  rcases hc with ⟨_, rfl, _⟩ | ⟨_, _, _, p', c', blk, _, rfl⟩ | ⟨_, _, rfl, _⟩
  ·exact h1
  ·rw [put_meet]; exact h1
  ·exact h1
theorem did_meet {b : Bs} {c : Cm} {b' : Bs} {es' : List Ev} (h : Did b c b' es') : b'.meet = b.meet := by
 rcases h with ⟨_, rfl, _⟩ | ⟨_, _, o, s, k, i, hf, rfl, _⟩ | ⟨_, _, ht⟩ | ⟨_, _, o, s, k, i, hf, ht⟩
 ·rfl
 ·exact del_meet i
 ·exact took_meet ht
 ·exact (took_meet ht).trans (del_meet i)
theorem own_ofp {base : Nat} {w : World} {e : TypeId} {size n m : Nat} {p : Option Addr} {c j : Nat} {xs : List Value} (h : w.ownsRow base e size (.slice p n c) m xs) (hj : (Value.slice p n c).ownBlock = some j) : OfP p j := by
 obtain ⟨_, ⟨h1, _⟩ | ⟨g, cap, cur, h1, _⟩⟩ := h
 ·obtain ⟨rfl, _⟩ := Value.slice.inj h1
  cases hj
 ·obtain ⟨rfl, _⟩ := Value.slice.inj h1
  injection hj with hj
  subst hj
  rfl
/-- the program's book and the document's, side by side. -/
structure Dr (W : World) (B G : Nat) (b : Bs) (d : Db) (U : World) : Prop where
 pl : Pl W B b U
 df : Dof d b
 dm : Dm U d
 row : U.heap[G]? = some (.cells #[.int .i64 d.cap, .int .i64 d.meet, .slice d.p1 d.o1.length d.c1, .slice d.p2 d.o2.length d.c2, .int .u64 d.high, .int .u64 d.seq] 32 (0, 0))
 wg : W.heap.size ≤ G
 ap : ∀ j, OfP d.p1 j ∨ OfP d.p2 j → ¬ b.fp B j
 pk : ∀ S, Pkl (b.sl S)
 mt : 0 ≤ b.meet ∧ b.meet ≤ 3
theorem Dr.no {W : World} {B G : Nat} {b : Bs} {d : Db} {U : World} (h : Dr W B G b d U) : ¬ b.fp B G := fun hf => by
 obtain ⟨c, t, e, ht⟩ := h.pl.bm.ty hf
 have := e.symm.trans h.row
 simp only [Option.some.injEq, Obj.cells.injEq] at this
 have h2 := this.2.1
 rcases ht with rfl | rfl | rfl <;> exact absurd h2 (by decide)
/-- behind the program's Do. -/
structure Dp (W : World) (B G : Nat) (b b' : Bs) (d : Db) (c : Cm) (es : List Ev) (U : World) : Prop where
 pl : Pl W B b' U
 df : Dof d b
 dm : Dm U d
 row : U.heap[G]? = some (.cells #[.int .i64 d.cap, .int .i64 d.meet, .slice d.p1 d.o1.length d.c1, .slice d.p2 d.o2.length d.c2, .int .u64 d.high, .int .u64 d.seq] 32 (0, 0))
 wg : W.heap.size ≤ G
 pk : ∀ S, Pkl (b.sl S)
 mt : 0 ≤ b.meet ∧ b.meet ≤ 3
 gb : Gb b
 di : Did b c b' es
theorem dr_do {W : World} {B G : Nat} {b : Bs} {d : Db} {U : World} (c : Cm) (h : Dr W B G b d U) (hc : CmOk c) :
  Calls Try.prog 10 #[.pointer (some ⟨B, 0, none⟩), .agg (cmr c)] U fun e w' => ∃ b' p n q es, e = .returned (.slice p n q) ∧ Hid (es.length = n) ∧ Hid (w'.ownsRow 0 58 13 (.slice p n q) es.length (evs es)) ∧ Hid (Dp W B G b b' d c es w') := by
 refine (pl_do2 c h.pl hc).mono ?_
 rintro e w' ⟨b', p, q, es, rfl, h2, h3, h4, h5⟩
 have mv : ∀ {p : Option Addr} {n c m : Nat} {xs : List Value}, U.ownsRow 0 50 7 (.slice p n c) m xs → (∀ j, OfP p j → ¬ b.fp B j) → w'.ownsRow 0 50 7 (.slice p n c) m xs := fun hh hn => own_same hh (fun j hj => h5.obj j (hh.lt j hj).2 (hn j (own_ofp hh hj)))
 exact ⟨b', p, _, q, es, rfl, hid rfl, hid h3, hid ⟨h2, h.df, ⟨mv h.dm.r1 (fun j hj => h.ap j (.inl hj)), mv h.dm.r2 (fun j hj => h.ap j (.inr hj)), h.dm.l1, h.dm.l2⟩, h5.row h.row h.no, h.wg, h.pk, h.mt, h.pl.gb, h4⟩⟩
theorem Dp.on {W : World} {B G : Nat} {b b' : Bs} {d : Db} {c : Cm} {es : List Ev} {U V : World} (h : Dp W B G b b' d c es U) (hb : Below U.heap.size U V) : Dp W B G b b' d c es V :=
 ⟨h.pl.on hb, h.df, h.dm.on hb, row_on h.row hb, h.wg, h.pk, h.mt, h.gb, h.di⟩
theorem Dr.on {W : World} {B G : Nat} {b : Bs} {d : Db} {U V : World} (h : Dr W B G b d U) (hb : Below U.heap.size U V) : Dr W B G b d V :=
 ⟨h.pl.on hb, h.df, h.dm.on hb, row_on h.row hb, h.wg, h.ap, h.pk, h.mt⟩
/-- the document's Do behind the program's. -/
theorem dp_do {W : World} {B G : Nat} {b b' : Bs} {d : Db} {c : Cm} {es : List Ev} {U : World} (h : Dp W B G b b' d c es U) (hc : CmOk c) (V : World) (hb : Below U.heap.size U V) :
  Calls Try.prog 11 #[.agg #[.int .i64 d.cap, .int .i64 d.meet, .slice d.p1 d.o1.length d.c1, .slice d.p2 d.o2.length d.c2, .int .u64 d.high, .int .u64 d.seq], .agg #[.int .i64 c.kd, .int .u64 c.id, .int .u64 c.tg, .int .u32 c.mb, .int .i64 c.sd, .int .i64 c.ty, .int .i64 c.pr, .int .u64 c.qt, .int .u64 c.pk]] V fun e w' => ∃ d2 p2 n2 c2, e = .returned (.tuple #[.agg #[.int .i64 d2.cap, .int .i64 d2.meet, .slice d2.p1 d2.o1.length d2.c1, .slice d2.p2 d2.o2.length d2.c2, .int .u64 d2.high, .int .u64 d2.seq], .slice p2 n2 c2]) ∧ Hid (Dm w' d2) ∧ Hid (Al U.heap.size d2) ∧ Hid (es.length = n2) ∧ Hid (w'.ownsRow 0 58 13 (.slice p2 n2 c2) es.length (evs es)) ∧ Hid (Below V.heap.size V w') ∧ Hid (Dof d2 b') := by
 refine (ddo_any d b c V h.df (h.dm.on hb) h.gb (fun S _ y hy => h.pk S y hy) h.mt hc).mono ?_
 rintro e w' ⟨d2, p2, n2, c2, es2, rfl, ⟨k1, k2⟩, k3, k4, k5, k6⟩
 obtain ⟨k7, rfl⟩ := k6 b' es h.di
 exact ⟨d2, p2, n2, c2, rfl, hid k1, hid (k2.mono hb.size), hid k3, hid k4, hid k5, hid k7⟩
/-- and on. -/
theorem Dp.next {W : World} {B G : Nat} {b b' : Bs} {d : Db} {c : Cm} {es : List Ev} {U V V2 : World} {d2 : Db} (h : Dp W B G b b' d c es U) (hb : Below U.heap.size U V) (hk : Kp (fun j => j = G) V V2) (hr : V2.heap[G]? = some (.cells #[.int .i64 d2.cap, .int .i64 d2.meet, .slice d2.p1 d2.o1.length d2.c1, .slice d2.p2 d2.o2.length d2.c2, .int .u64 d2.high, .int .u64 d2.seq] 32 (0, 0))) (hd : Dm V2 d2) (ha : Al U.heap.size d2) (hf : Dof d2 b') : Dr W B G b' d2 V2 := by
 have hv := h.on hb
 have hlt : ∀ j, b'.fp B j → j < U.heap.size := fun j hj => by
  obtain ⟨c, t, e, _⟩ := h.pl.bm.ty hj
  exact row_lt e
 have hno : ¬ b'.fp B G := fun hg => by
  obtain ⟨c, t, e, ht⟩ := hv.pl.bm.ty hg
  have := e.symm.trans hv.row
  simp only [Option.some.injEq, Obj.cells.injEq] at this
  have h2 := this.2.1
  rcases ht with rfl | rfl | rfl <;> exact absurd h2 (by decide)
 refine ⟨⟨hv.pl.be.trans (hk.below hv.pl.be.size (fun j hj e => by have := h.wg; omega)), hv.pl.bm.kept hk (fun j hj e => hno (e ▸ hj)), hv.pl.gb, hv.pl.nw⟩, hf, hd, hr, h.wg, ?_, did_pk h.di h.pk, by rw [did_meet h.di]; exact h.mt⟩
 rintro j (hj | hj) hp
 ·have := ha.1 j hj
  have := hlt j hp
  omega
 ·have := ha.2 j hj
  have := hlt j hp
  omega
theorem does_walk (cap meet : Int) (q : Option Addr) (lc : Nat) (l : List Cm) (W : World) (hl : Cmz W q l) (hok : ∀ c ∈ l, CmOk c) (hn : l.length ≤ maxLen) :
  Calls Try.prog 3 #[.agg #[.int .i64 cap, .int .i64 meet], .slice q l.length lc] W fun e w' => e = .returned (.bool true) ∧ Below W.heap.size W w' := by
 have CN := hid (fun U => pl_new cap meet U)
 have CD := hid (fun U => dnew_any cap meet U)
 unfold dbv at CD
 obtain ⟨v, hv⟩ : ∃ v, cfg cap meet = v := ⟨_, rfl⟩
 have HV := hid hv
 rw [hv] at CN CD
 clear hv
 obtain ⟨n, hnn⟩ : ∃ n, l.length = n := ⟨_, rfl⟩
 have HN := hid hnn
 rw [hnn] at hn ⊢
 clear hnn
 have hn' : n < 9223372036854775808 := by unfold maxLen at hn; omega
 have HL := hid hl
 have HOK := hid hok
 have HB := hid (ball W (.cells #[.int .i64 cap, .int .i64 meet] 23))
 have hr := World.alloc_heap_new W (.cells #[.int .i64 cap, .int .i64 meet] 23)
 obtain ⟨W1, hW⟩ : ∃ W1, W.alloc (.cells #[.int .i64 cap, .int .i64 meet] 23) = W1 := ⟨_, rfl⟩
 rw [hW] at HB hr
 have HW := hid hW
 have HR := hid hr
 obtain ⟨R, hRR⟩ : ∃ R, W.heap.size = R := ⟨_, rfl⟩
 have HRR := hid hRR
 rw [hRR] at HR
 have HC2 := hid (fun (U : World) (hU : Below W1.heap.size W1 U) => (show U.cell? ⟨R, 0, none⟩ = some (.int .i64 cap) ∧ U.cell? ⟨R, 1, none⟩ = some (.int .i64 meet) from by
  have h := row_on HR.out hU
  exact ⟨row_cell h 0, row_cell h 1⟩))
 clear hr hW hl hok hRR
 cases v with
 | false =>
  have CN2 := hid (fun U => (CN.out U).mono (R' := fun e w' => e = .returned (.tuple #[.pointer none, .int .i64 1]) ∧ Hid (Below U.heap.size U w')) (by
   rintro e w' (⟨_, h1, h2⟩ | ⟨h, _⟩)
   ·exact ⟨h1, hid h2⟩
   ·cases h))
  have CD2 := hid (fun U => (CD.out U).mono (R' := fun e w' => e = .returned (.tuple #[.agg #[.int .i64 0, .int .i64 0, .slice none 0 0, .slice none 0 0, .int .u64 0, .int .u64 0], .int .i64 1]) ∧ Hid (Below U.heap.size U w')) (by
   rintro e w' ⟨h1, h2⟩
   exact ⟨h1, hid h2⟩))
  go_enter Try.func3, Try.ntmps3
  go_upto_region 1 with fail
  rw [HW.out, HRR.out]
  obtain ⟨c0, c1⟩ := HC2.out W1 (Below.refl _ _)
  go_upto_region 2 with (go_at_call 8; with_reducible refine (CN2.out _).mono ?_; rintro e w1 ⟨rfl, HB1⟩)
  clear c0 c1
  obtain ⟨c0, c1⟩ := HC2.out w1 HB1.out
  go_upto_region 3 with (go_at_call 9; with_reducible refine (CD2.out _).mono ?_; rintro e w2 ⟨rfl, HB2⟩)
  clear c0 c1
  go_wp2
  go_ret
  exact ⟨rfl, btr (btr (btr HB.out HB1.out) HB2.out) (ball _ _)⟩
 | true =>
  have CN2 := hid (fun U => (CN.out U).mono (R' := fun e w' => ∃ B b, e = .returned (.tuple #[.pointer (some ⟨B, 0, none⟩), .int .i64 0]) ∧ Hid (Pl U B b w') ∧ Hid (Fr b cap meet)) (by
   rintro e w' (⟨h, _⟩ | ⟨_, B, b, h1, h2, h3⟩)
   ·cases h
   ·exact ⟨B, b, h1, hid h2, hid h3⟩))
  have CD2 := hid (fun U => (CD.out U).mono (R' := fun e w' => e = .returned (.tuple #[.agg #[.int .i64 cap, .int .i64 meet, .slice none 0 0, .slice none 0 0, .int .u64 0, .int .u64 0], .int .i64 0]) ∧ Hid (Below U.heap.size U w')) (by
   rintro e w' ⟨h1, h2⟩
   exact ⟨h1, hid h2⟩))
  go_enter Try.func3, Try.ntmps3
  go_upto_region 1 with fail
  rw [HW.out, HRR.out]
  obtain ⟨c0, c1⟩ := HC2.out W1 (Below.refl _ _)
  go_upto_region 2 with (go_at_call 8; with_reducible refine (CN2.out _).mono ?_; rintro e w1 ⟨B, b0, rfl, HP1, HF1⟩)
  clear c0 c1
  obtain ⟨c0, c1⟩ := HC2.out w1 HP1.out.be
  go_upto_region 3 with (go_at_call 9; with_reducible refine (CD2.out _).mono ?_; rintro e w2 ⟨rfl, HB2⟩)
  clear c0 c1
  obtain ⟨G, hG⟩ : ∃ g, w2.heap.size = g := ⟨_, rfl⟩
  obtain ⟨M, hM⟩ : ∃ X, w2.alloc (.cells #[.int .i64 cap, .int .i64 meet, .slice none 0 0, .slice none 0 0, .int .u64 0, .int .u64 0] 32) = X := ⟨_, rfl⟩
  have bM : Below w2.heap.size w2 M := by rw [← hM]; exact ball _ _
  have hcf : 1 ≤ cap ∧ cap ≤ 4096 ∧ 0 ≤ meet ∧ meet ≤ 3 := of_decide_eq_true HV.out
  have HDR := hid (show ∃ d, Dr W B G b0 d M from ⟨⟨cap, meet, none, 0, [], none, 0, [], 0, 0⟩, ⟨((HP1.out.back HB.out).on HB2.out).on bM, ⟨HF1.out.num.1.symm, HF1.out.num.2.1.symm, by rw [HF1.out.l1]; rfl, by rw [HF1.out.l2]; rfl, HF1.out.num.2.2.1.symm, HF1.out.num.2.2.2.symm⟩, ⟨⟨rfl, .inl ⟨rfl, rfl⟩⟩, ⟨rfl, .inl ⟨rfl, rfl⟩⟩, Nat.zero_le _, Nat.zero_le _⟩, by rw [← hM, ← hG]; exact World.alloc_heap_new _ _, by rw [← hG]; exact (btr (btr HB.out HP1.out.be) HB2.out).size, fun j hj => by (rcases hj with h | h <;> cases h), fun S y hy => (by have : b0.sl S = [] := (by unfold Bs.sl; split; exact HF1.out.l1; exact HF1.out.l2); rw [this] at hy; cases hy), by rw [HF1.out.num.2.1]; exact ⟨hcf.2.2.1, hcf.2.2.2⟩⟩⟩)
  rw [hM, hG]
  clear hM hG bM hcf
  go_wp2_with fail
  go_loopw [9] (fun iv wr => ∃ (i : Nat) (b : Bs) (d : Db), i ≤ n ∧ iv = .int .i64 i ∧ Hid (Dr W B G b d wr)) (fun iv _ => n - (intOf iv).toNat)
  case atStart =>
   obtain ⟨d, hd⟩ := HDR.out
   exact ⟨0, b0, d, Nat.zero_le _, rfl, hid hd⟩
  case round =>
   clear HDR
   obtain ⟨i, b, d, hin, rfl, HD⟩ := hrel
   by_cases hlt : i < n
   ·have hil : i < l.length := by rw [HN.out]; exact hlt
    have HCK := hid (HOK.out l[i] (List.getElem_mem hil))
    obtain ⟨qb, qo, hq, hrest⟩ := cmz_cells HL.out HD.out.pl.be hil
    clear hrest
    have HCE := hid (fun (U : World) (hU : Below W.heap.size W U) => (show U.cell? ⟨qb, qo + i * 9, none⟩ = some (.int .i64 l[i].kd) ∧ U.cell? ⟨qb, qo + i * 9 + 1, none⟩ = some (.int .u64 l[i].id) ∧ U.cell? ⟨qb, qo + i * 9 + 2, none⟩ = some (.int .u64 l[i].tg) ∧ U.cell? ⟨qb, qo + i * 9 + 3, none⟩ = some (.int .u32 l[i].mb) ∧ U.cell? ⟨qb, qo + i * 9 + 4, none⟩ = some (.int .i64 l[i].sd) ∧ U.cell? ⟨qb, qo + i * 9 + 5, none⟩ = some (.int .i64 l[i].ty) ∧ U.cell? ⟨qb, qo + i * 9 + 6, none⟩ = some (.int .i64 l[i].pr) ∧ U.cell? ⟨qb, qo + i * 9 + 7, none⟩ = some (.int .u64 l[i].qt) ∧ U.cell? ⟨qb, qo + i * 9 + 8, none⟩ = some (.int .u64 l[i].pk) from by
     obtain ⟨b1, o1, hq1, r⟩ := cmz_cells HL.out hU hil
     rw [hq] at hq1
     injection hq1 with hq1
     injection hq1 with e1 e2 _
     subst e1
     subst e2
     exact r))
    obtain ⟨c, hc⟩ : ∃ c, l[i] = c := ⟨_, rfl⟩
    rw [hc] at HCK HCE
    clear hc
    subst hq
    have i0' : (0 : Int) ≤ (i : Int) := by omega
    have i1 : (i : Int) < (n : Int) := by omega
    have CD1 := hid (dr_do c HD.out HCK.out)
    unfold cmr at CD1
    obtain ⟨a0, a1, a2, a3, a4, a5, a6, a7, a8⟩ := HCE.out wr HD.out.pl.be
    go_upto_region 11 with (go_at_call 10; with_reducible refine (CD1.out).mono ?_; rintro e w3 ⟨b', p3, n3, q3, es, rfl, HE3, HO3, HP3⟩)
    clear a0 a1 a2 a3 a4 a5 a6 a7 a8
    obtain ⟨Y0, hY0⟩ : ∃ X, w3.drew = X := ⟨_, rfl⟩
    have HE0 := hid (show Below w3.heap.size w3 Y0 from by rw [← hY0]; exact bdrew1 _)
    have HPY := hid (HP3.out.on HE0.out)
    have HOY := hid (own_on HO3.out HE0.out)
    have BE0 := hid (Below.refl Y0.heap.size Y0)
    have HKE := hid (fun (U : World) (hU : Below Y0.heap.size Y0 U) => (show (U.cell? ⟨G, 0, none⟩ = some (.int .i64 d.cap) ∧ U.cell? ⟨G, 1, none⟩ = some (.int .i64 d.meet) ∧ U.cell? ⟨G, 2, none⟩ = some (.slice d.p1 d.o1.length d.c1) ∧ U.cell? ⟨G, 3, none⟩ = some (.slice d.p2 d.o2.length d.c2) ∧ U.cell? ⟨G, 4, none⟩ = some (.int .u64 d.high) ∧ U.cell? ⟨G, 5, none⟩ = some (.int .u64 d.seq)) ∧ (U.cell? ⟨qb, qo + i * 9, none⟩ = some (.int .i64 c.kd) ∧ U.cell? ⟨qb, qo + i * 9 + 1, none⟩ = some (.int .u64 c.id) ∧ U.cell? ⟨qb, qo + i * 9 + 2, none⟩ = some (.int .u64 c.tg) ∧ U.cell? ⟨qb, qo + i * 9 + 3, none⟩ = some (.int .u32 c.mb) ∧ U.cell? ⟨qb, qo + i * 9 + 4, none⟩ = some (.int .i64 c.sd) ∧ U.cell? ⟨qb, qo + i * 9 + 5, none⟩ = some (.int .i64 c.ty) ∧ U.cell? ⟨qb, qo + i * 9 + 6, none⟩ = some (.int .i64 c.pr) ∧ U.cell? ⟨qb, qo + i * 9 + 7, none⟩ = some (.int .u64 c.qt) ∧ U.cell? ⟨qb, qo + i * 9 + 8, none⟩ = some (.int .u64 c.pk)) from ⟨row6 (row_on HPY.out.row hU), HCE.out U (btr HPY.out.pl.be hU)⟩))
    have CDO := hid (fun (V : World) (hb : Below Y0.heap.size Y0 V) => dp_do HPY.out HCK.out V hb)
    refine wp_region_held_drew (S := (fun U => (U.cell? ⟨G, 0, none⟩ = some (.int .i64 d.cap) ∧ U.cell? ⟨G, 1, none⟩ = some (.int .i64 d.meet) ∧ U.cell? ⟨G, 2, none⟩ = some (.slice d.p1 d.o1.length d.c1) ∧ U.cell? ⟨G, 3, none⟩ = some (.slice d.p2 d.o2.length d.c2) ∧ U.cell? ⟨G, 4, none⟩ = some (.int .u64 d.high) ∧ U.cell? ⟨G, 5, none⟩ = some (.int .u64 d.seq)) ∧ (U.cell? ⟨qb, qo + i * 9, none⟩ = some (.int .i64 c.kd) ∧ U.cell? ⟨qb, qo + i * 9 + 1, none⟩ = some (.int .u64 c.id) ∧ U.cell? ⟨qb, qo + i * 9 + 2, none⟩ = some (.int .u64 c.tg) ∧ U.cell? ⟨qb, qo + i * 9 + 3, none⟩ = some (.int .u32 c.mb) ∧ U.cell? ⟨qb, qo + i * 9 + 4, none⟩ = some (.int .i64 c.sd) ∧ U.cell? ⟨qb, qo + i * 9 + 5, none⟩ = some (.int .i64 c.ty) ∧ U.cell? ⟨qb, qo + i * 9 + 6, none⟩ = some (.int .i64 c.pr) ∧ U.cell? ⟨qb, qo + i * 9 + 7, none⟩ = some (.int .u64 c.qt) ∧ U.cell? ⟨qb, qo + i * 9 + 8, none⟩ = some (.int .u64 c.pk)))) (by kernel_rfl) ?_ (fun hHeld => ?_)
    ·(try dsimp only); ((rw [hY0]; exact HKE.out _ (Below.refl _ _)))
    rw [hY0] at hHeld ⊢
    clear hY0
    refine' wpAnyH_take (i := 0) (oi := _) (v := _) rfl (by kernel_rfl) (by kernel_rfl) (by kernel_rfl) (fun _ _ _ h => h) (Or.inl ⟨by kernel_rfl, ?_⟩) (by assumption) ?_
    rotate_left
    ·(intro w hSw; (try dsimp only at hSw); go_simp; try (with_reducible rfl))
    try simp only [List.getElem_toArray, List.getElem_cons_succ, List.getElem_cons_zero, Act.put, List.setIfInBounds_toArray, List.set_cons_zero, List.set_cons_succ]
    refine' wpAnyH_take (i := 1) (oi := _) (v := _) rfl (by kernel_rfl) (by kernel_rfl) (by kernel_rfl) (fun _ _ _ h => h) (Or.inl ⟨by kernel_rfl, ?_⟩) (by assumption) ?_
    rotate_left
    ·(intro w hSw; (try dsimp only at hSw); go_simp; try (with_reducible rfl))
    try simp only [List.getElem_toArray, List.getElem_cons_succ, List.getElem_cons_zero, Act.put, List.setIfInBounds_toArray, List.set_cons_zero, List.set_cons_succ]
    refine' wpAnyH_take (i := 2) (oi := _) (v := _) rfl (by kernel_rfl) (by kernel_rfl) (by kernel_rfl) (fun _ _ _ h => h) (Or.inl ⟨by kernel_rfl, ?_⟩) (by assumption) ?_
    rotate_left
    ·(intro w hSw; (try dsimp only at hSw); go_simp; try (with_reducible rfl))
    try simp only [List.getElem_toArray, List.getElem_cons_succ, List.getElem_cons_zero, Act.put, List.setIfInBounds_toArray, List.set_cons_zero, List.set_cons_succ]
    refine' wpAnyH_take (i := 3) (oi := _) (v := _) rfl (by kernel_rfl) (by kernel_rfl) (by kernel_rfl) (fun _ _ _ h => h) (Or.inl ⟨by kernel_rfl, ?_⟩) (by assumption) ?_
    rotate_left
    ·(intro w hSw; (try dsimp only at hSw); go_simp; try (with_reducible rfl))
    try simp only [List.getElem_toArray, List.getElem_cons_succ, List.getElem_cons_zero, Act.put, List.setIfInBounds_toArray, List.set_cons_zero, List.set_cons_succ]
    refine' wpAnyH_take (i := 4) (oi := _) (v := _) rfl (by kernel_rfl) (by kernel_rfl) (by kernel_rfl) (fun _ _ _ h => h) (Or.inl ⟨by kernel_rfl, ?_⟩) (by assumption) ?_
    rotate_left
    ·(intro w hSw; (try dsimp only at hSw); go_simp; try (with_reducible rfl))
    try simp only [List.getElem_toArray, List.getElem_cons_succ, List.getElem_cons_zero, Act.put, List.setIfInBounds_toArray, List.set_cons_zero, List.set_cons_succ]
    refine wpAnyH_ready (rs := [5, 9]) (by kernel_rfl) (by simp) ?_
    refine (AllReadyH.cons (o := _) rfl (fun K hK => ?_) (AllReadyH.cons (o := _) rfl (fun K hK => ?_) AllReadyH.nil))
    focus
     go_simp
     go_at_call 11; with_reducible refine (CDO.out Y0 BE0.out).mono ?_; rintro e X5 ⟨d2, p2, n2, c2, rfl, D5', AL2, EN2, V5, BB5, DF2⟩
     (try go_wp2_with fail)
     have BX5 := hid (btr BE0.out BB5.out)
     refine hK.out _ _ ?_ (fun hHeld => ?_)
     ·(try dsimp only); exact HKE.out _ (BX5.out)
     clear hK K
     try simp only [List.getElem_toArray, List.getElem_cons_succ, List.getElem_cons_zero, Act.put, List.setIfInBounds_toArray, List.set_cons_zero, List.set_cons_succ]
     refine' wpAnyH_take (i := 6) (oi := _) (v := _) rfl (by kernel_rfl) (by kernel_rfl) (by kernel_rfl) (fun _ _ _ h => h) (Or.inl ⟨by kernel_rfl, ?_⟩) (by assumption) ?_
     rotate_left
     ·(intro w hSw; (try dsimp only at hSw); go_simp; try (with_reducible rfl))
     try simp only [List.getElem_toArray, List.getElem_cons_succ, List.getElem_cons_zero, Act.put, List.setIfInBounds_toArray, List.set_cons_zero, List.set_cons_succ]
     refine' wpAnyH_take (i := 7) (oi := _) (v := _) rfl (by kernel_rfl) (by kernel_rfl) (by kernel_rfl) (fun _ _ _ h => h) (Or.inl ⟨by kernel_rfl, ?_⟩) (by assumption) ?_
     rotate_left
     ·(intro w hSw; (try dsimp only at hSw); go_simp; try (with_reducible rfl))
     try simp only [List.getElem_toArray, List.getElem_cons_succ, List.getElem_cons_zero, Act.put, List.setIfInBounds_toArray, List.set_cons_zero, List.set_cons_succ]
     refine' wpAnyH_take (i := 8) (oi := _) (v := _) rfl (by kernel_rfl) (by kernel_rfl) (by kernel_rfl) (fun _ _ _ h => h) (Or.inl ⟨by kernel_rfl, ?_⟩) (by assumption) ?_
     rotate_left
     ·(intro w hSw; (try dsimp only at hSw); go_simp; try (with_reducible rfl))
     try simp only [List.getElem_toArray, List.getElem_cons_succ, List.getElem_cons_zero, Act.put, List.setIfInBounds_toArray, List.set_cons_zero, List.set_cons_succ]
     refine wpAnyH_ready (rs := [9]) (by kernel_rfl) (by simp) ?_
     refine (AllReadyH.cons (o := _) rfl (fun K hK => ?_) AllReadyH.nil)
     go_simp
     refine hK.out _ _ ?_ (fun hHeld => ?_)
     ·(try dsimp only); exact HKE.out _ (btr BX5.out (ball _ _))
     clear hK K
     try simp only [List.getElem_toArray, List.getElem_cons_succ, List.getElem_cons_zero, Act.put, List.setIfInBounds_toArray, List.set_cons_zero, List.set_cons_succ]
     obtain ⟨X9, hX9⟩ : ∃ X, X5.alloc (.cells #[.int .i64 0, .int .i64 0, .slice none 0 0, .slice none 0 0, .int .u64 0, .int .u64 0] 32) = X := ⟨_, rfl⟩
     have bX9 : Below X5.heap.size X5 X9 := by rw [← hX9]; exact ball _ _
     have BX9 := hid (btr BX5.out bX9)
     have zX9 := World.alloc_heap_new X5 (.cells #[.int .i64 0, .int .i64 0, .slice none 0 0, .slice none 0 0, .int .u64 0, .int .u64 0] 32)
     obtain ⟨g9, hg9⟩ : ∃ g, X5.heap.size = g := ⟨_, rfl⟩
     have yX9 : Y0.heap.size ≤ g9 := by rw [← hg9]; exact BX5.out.size
     rw [hX9, hg9] at zX9
     rw [hX9, hg9]
     have Z9 := hid zX9
     have D9 := hid (D5'.out.on bX9)
     have V9 := hid (own_on V5.out bX9)
     clear hX9 hg9 zX9
     have ZZ := Z9
     have ZD := D9
     have ZV := V9
     have ZB := BX9
     obtain ⟨WL, hWL⟩ : ∃ X, X9 = X := ⟨_, rfl⟩
     rw [hWL] at ZZ ZD ZV ZB ⊢
     clear hWL hHeld
    rotate_left
    focus
     go_simp
     refine hK.out _ _ ?_ (fun hHeld => ?_)
     ·(try dsimp only); exact HKE.out _ (btr BE0.out (ball _ _))
     clear hK K
     try simp only [List.getElem_toArray, List.getElem_cons_succ, List.getElem_cons_zero, Act.put, List.setIfInBounds_toArray, List.set_cons_zero, List.set_cons_succ]
     obtain ⟨X9, hX9⟩ : ∃ X, Y0.alloc (.cells #[.int .i64 0, .int .i64 0, .slice none 0 0, .slice none 0 0, .int .u64 0, .int .u64 0] 32) = X := ⟨_, rfl⟩
     have bX9 : Below Y0.heap.size Y0 X9 := by rw [← hX9]; exact ball _ _
     have BX9 := hid (btr BE0.out bX9)
     have zX9 := World.alloc_heap_new Y0 (.cells #[.int .i64 0, .int .i64 0, .slice none 0 0, .slice none 0 0, .int .u64 0, .int .u64 0] 32)
     obtain ⟨g9, hg9⟩ : ∃ g, Y0.heap.size = g := ⟨_, rfl⟩
     have yX9 : Y0.heap.size ≤ g9 := by rw [← hg9]; exact BE0.out.size
     rw [hX9, hg9] at zX9
     rw [hX9, hg9]
     have Z9 := hid zX9
     clear hX9 hg9 zX9
     refine wpAnyH_ready (rs := [5]) (by kernel_rfl) (by simp) ?_
     refine (AllReadyH.cons (o := _) rfl (fun K hK => ?_) AllReadyH.nil)
     go_simp
     go_at_call 11; with_reducible refine (CDO.out X9 BX9.out).mono ?_; rintro e X5 ⟨d2, p2, n2, c2, rfl, D5', AL2, EN2, V5, BB5, DF2⟩
     (try go_wp2_with fail)
     have BX5 := hid (btr BX9.out BB5.out)
     have Z5 := hid (row_on Z9.out BB5.out)
     refine hK.out _ _ ?_ (fun hHeld => ?_)
     ·(try dsimp only); exact HKE.out _ (BX5.out)
     clear hK K
     try simp only [List.getElem_toArray, List.getElem_cons_succ, List.getElem_cons_zero, Act.put, List.setIfInBounds_toArray, List.set_cons_zero, List.set_cons_succ]
     refine' wpAnyH_take (i := 6) (oi := _) (v := _) rfl (by kernel_rfl) (by kernel_rfl) (by kernel_rfl) (fun _ _ _ h => h) (Or.inl ⟨by kernel_rfl, ?_⟩) (by assumption) ?_
     rotate_left
     ·(intro w hSw; (try dsimp only at hSw); go_simp; try (with_reducible rfl))
     try simp only [List.getElem_toArray, List.getElem_cons_succ, List.getElem_cons_zero, Act.put, List.setIfInBounds_toArray, List.set_cons_zero, List.set_cons_succ]
     refine' wpAnyH_take (i := 7) (oi := _) (v := _) rfl (by kernel_rfl) (by kernel_rfl) (by kernel_rfl) (fun _ _ _ h => h) (Or.inl ⟨by kernel_rfl, ?_⟩) (by assumption) ?_
     rotate_left
     ·(intro w hSw; (try dsimp only at hSw); go_simp; try (with_reducible rfl))
     try simp only [List.getElem_toArray, List.getElem_cons_succ, List.getElem_cons_zero, Act.put, List.setIfInBounds_toArray, List.set_cons_zero, List.set_cons_succ]
     refine' wpAnyH_take (i := 8) (oi := _) (v := _) rfl (by kernel_rfl) (by kernel_rfl) (by kernel_rfl) (fun _ _ _ h => h) (Or.inl ⟨by kernel_rfl, ?_⟩) (by assumption) ?_
     rotate_left
     ·(intro w hSw; (try dsimp only at hSw); go_simp; try (with_reducible rfl))
     try simp only [List.getElem_toArray, List.getElem_cons_succ, List.getElem_cons_zero, Act.put, List.setIfInBounds_toArray, List.set_cons_zero, List.set_cons_succ]
     have ZZ := Z5
     have ZD := D5'
     have ZV := V5
     have ZB := BX5
     obtain ⟨WL, hWL⟩ : ∃ X, X5 = X := ⟨_, rfl⟩
     rw [hWL] at ZZ ZD ZV ZB ⊢
     clear hWL hHeld
    rotate_left
    all_goals
     have AIE := hid (i32 (.int .i64 d2.cap) (.int .i64 d2.meet) (.slice d2.p1 d2.o1.length d2.c1) (.slice d2.p2 d2.o2.length d2.c2) (.int .u64 d2.high) (.int .u64 d2.seq))
     have ASE := hid (s6 (.int .i64 0) (.int .i64 0) (.slice none 0 0) (.slice none 0 0) (.int .u64 0) (.int .u64 0) (.int .i64 d2.cap) (.int .i64 d2.meet) (.slice d2.p1 d2.o1.length d2.c1) (.slice d2.p2 d2.o2.length d2.c2) (.int .u64 d2.high) (.int .u64 d2.seq))
     have AAE := hid (allB d2)
     refine wpAnyH_ready (rs := [10]) (by kernel_rfl) (by simp) ?_
     refine AllReadyH.cons (o := _) rfl (fun K hK => ?_) AllReadyH.nil
     refine step_store_row (by rfl) 32 (.tmp 11) (.tmp 54) (by rfl) g9 #[.int .i64 d2.cap, .int .i64 d2.meet, .slice d2.p1 d2.o1.length d2.c1, .slice d2.p2 d2.o2.length d2.c2, .int .u64 d2.high, .int .u64 d2.seq] (by rfl) (by rfl) 32 _ ZZ.out AIE.out ASE.out AAE.out ?_
     have k1 := setRow_kp WL g9 #[.int .i64 d2.cap, .int .i64 d2.meet, .slice d2.p1 d2.o1.length d2.c1, .slice d2.p2 d2.o2.length d2.c2, .int .u64 d2.high, .int .u64 d2.seq]
     have HBV := hid (ZB.out.trans (k1.below ZB.out.size (fun j hj e => by omega)))
     have HZV := hid (setRow_heap WL g9 _ #[.int .i64 d2.cap, .int .i64 d2.meet, .slice d2.p1 d2.o1.length d2.c1, .slice d2.p2 d2.o2.length d2.c2, .int .u64 d2.high, .int .u64 d2.seq] 32 (0, 0) ZZ.out)
     have HDV := hid (ZD.out.setRow' (cs' := #[.int .i64 d2.cap, .int .i64 d2.meet, .slice d2.p1 d2.o1.length d2.c1, .slice d2.p2 d2.o2.length d2.c2, .int .u64 d2.high, .int .u64 d2.seq]) ZZ.out (by decide))
     have HVV := hid (own_setRow (cs' := #[.int .i64 d2.cap, .int .i64 d2.meet, .slice d2.p1 d2.o1.length d2.c1, .slice d2.p2 d2.o2.length d2.c2, .int .u64 d2.high, .int .u64 d2.seq]) ZV.out ZZ.out (by decide))
     refine hK.out _ _ ?_ (fun hHeld => ?_)
     ·(try dsimp only); exact HKE.out _ (HBV.out)
     clear hK K k1
     try simp only [List.getElem_toArray, List.getElem_cons_succ, List.getElem_cons_zero, Act.put, List.setIfInBounds_toArray, List.set_cons_zero, List.set_cons_succ]
     obtain ⟨V, hV⟩ : ∃ X, WL.setRow g9 #[.int .i64 d2.cap, .int .i64 d2.meet, .slice d2.p1 d2.o1.length d2.c1, .slice d2.p2 d2.o2.length d2.c2, .int .u64 d2.high, .int .u64 d2.seq] = X := ⟨_, rfl⟩
     rw [hV] at HBV HZV HDV HVV hHeld ⊢
     clear hV
     refine' wpAnyH_take (i := 11) (oi := _) (v := _) rfl (by kernel_rfl) (by kernel_rfl) (by kernel_rfl) (fun _ _ _ h => h) (Or.inl ⟨by kernel_rfl, ?_⟩) (by assumption) ?_
     rotate_left
     ·(intro w hSw; (try dsimp only at hSw); go_simp; try (with_reducible rfl))
     try simp only [List.getElem_toArray, List.getElem_cons_succ, List.getElem_cons_zero, Act.put, List.setIfInBounds_toArray, List.set_cons_zero, List.set_cons_succ]
     refine wpAnyH_done (by kernel_rfl) ?_ _
     clear hHeld
     have HGV := hid (row_on HPY.out.row HBV.out)
     have ASG := hid (s6 (.int .i64 d.cap) (.int .i64 d.meet) (.slice d.p1 d.o1.length d.c1) (.slice d.p2 d.o2.length d.c2) (.int .u64 d.high) (.int .u64 d.seq) (.int .i64 d2.cap) (.int .i64 d2.meet) (.slice d2.p1 d2.o1.length d2.c1) (.slice d2.p2 d2.o2.length d2.c2) (.int .u64 d2.high) (.int .u64 d2.seq))
     obtain ⟨z0, z1, z2, z3, z4, z5⟩ := row6 HZV.out
     go_upto_region 13 with (refine wpList_store_row (by rfl) 32 (.tmp 7) (.tmp 56) (by rfl) G #[.int .i64 d2.cap, .int .i64 d2.meet, .slice d2.p1 d2.o1.length d2.c1, .slice d2.p2 d2.o2.length d2.c2, .int .u64 d2.high, .int .u64 d2.seq] (by rfl) (by rfl) 32 _ HGV.out AIE.out ASG.out AAE.out ?_)
     clear z0 z1 z2 z3 z4 z5
     have HNX := hid (HPY.out.next HBV.out (setRow_kp V G #[.int .i64 d2.cap, .int .i64 d2.meet, .slice d2.p1 d2.o1.length d2.c1, .slice d2.p2 d2.o2.length d2.c2, .int .u64 d2.high, .int .u64 d2.seq]) (setRow_heap V G _ #[.int .i64 d2.cap, .int .i64 d2.meet, .slice d2.p1 d2.o1.length d2.c1, .slice d2.p2 d2.o2.length d2.c2, .int .u64 d2.high, .int .u64 d2.seq] 32 (0, 0) HGV.out) (HDV.out.setRow' (cs' := #[.int .i64 d2.cap, .int .i64 d2.meet, .slice d2.p1 d2.o1.length d2.c1, .slice d2.p2 d2.o2.length d2.c2, .int .u64 d2.high, .int .u64 d2.seq]) HGV.out (by decide)) AL2.out DF2.out)
     have HX1 := hid (own_setRow (cs' := #[.int .i64 d2.cap, .int .i64 d2.meet, .slice d2.p1 d2.o1.length d2.c1, .slice d2.p2 d2.o2.length d2.c2, .int .u64 d2.high, .int .u64 d2.seq]) (own_on HOY.out HBV.out) HGV.out (by decide))
     have HX2 := hid (own_setRow (cs' := #[.int .i64 d2.cap, .int .i64 d2.meet, .slice d2.p1 d2.o1.length d2.c1, .slice d2.p2 d2.o2.length d2.c2, .int .u64 d2.high, .int .u64 d2.seq]) HVV.out HGV.out (by decide))
     obtain ⟨V2, hV2⟩ : ∃ X, V.setRow G #[.int .i64 d2.cap, .int .i64 d2.meet, .slice d2.p1 d2.o1.length d2.c1, .slice d2.p2 d2.o2.length d2.c2, .int .u64 d2.high, .int .u64 d2.seq] = X := ⟨_, rfl⟩
     rw [hV2] at HNX HX1 HX2 ⊢
     clear hV2
     have CEV := hid (show Calls Try.prog 12 #[.slice p3 n3 q3, .slice p2 n2 c2] V2 fun e w' => e = .returned (.bool true) ∧ Hid (Below V2.heap.size V2 w') from by
      have h1 := HX1.out
      have h2 := HX2.out
      have e1 := HE3.out
      have e2 := EN2.out
      subst e1
      subst e2
      refine (devents_same p3 p2 q3 c2 es V2 h1 h2).mono ?_
      rintro e w' ⟨k1, k2⟩
      exact ⟨k1, hid k2⟩)
     go_wp2_with (go_at_call 12; with_reducible refine (CEV.out).mono ?_; rintro e w9 ⟨rfl, HB9⟩)
     go_roundw
     case rel => exact ⟨i + 1, b', d2, by omega, by go_num, hid (HNX.out.on HB9.out)⟩
     case measure => simp [intOf]; omega
   ·obtain rfl : i = n := by omega
    go_wp2
    go_ret
    exact ⟨rfl, HD.out.pl.be⟩
end Go.Proofs.Ytalgndgoedlpoaa
