/-
  AuctionOrder: the walk.
-/
import Derived.Test.YtknikhoobhgidaaOrP
namespace Go.Proofs.Ytknikhoobhgidaa
open Go.RowKit Go.Deep Go.Shelf
set_option linter.unusedVariables false
set_option linter.unusedSimpArgs false
set_option maxHeartbeats 4000000
set_option maxRecDepth 100000
theorem step_app_at {w : World} {ops : Array Oper} {oo : Oper} {a : Act} {K : Act → World → Prop} {Q : Exit → Act → World → Prop} {E : Prop} (hgd : oo.guard = none) (s x : Operand)
    (ho : oo.op = .call { callee := .builtin .append, args := #[s, x], argTypes := #[22, 22] })
    (base : Nat) (v : Value) (n : Nat) (ys : List It) (hs : a.eval s = v) (hown : w.ownsRow base 36 6 v n (its ys))
    (q : Option Addr) (ad : Addr) (hq : q = some ad) (c m : Nat) (xs : List It) (hx : a.eval x = .slice q m c) (hl : xs.length = m) (hc : ∀ j u, (its xs)[j]? = some u → w.cell? (ad.add j) = some u)
    (h63 : n + m ≤ 8192) (hbase : base ≤ w.heap.size)
    (h : ∀ v' w', Hid (w'.ownsRow base 36 6 v' (n + m) (its (ys ++ xs))) → Hid (w.grownBy w' v.ownBlock) → K (a.put oo.dst v') w') :
    if Region.wanted oo (yielded ops a.tmps) = true then Oper.wp Try.prog oo a w K Q else E := by
  have hw : Region.wanted oo (yielded ops a.tmps) = true := by simp [Region.wanted, hgd]
  rw [if_pos hw]
  subst hq
  obtain ⟨i0, hi, hz0, hz1, hz2⟩ := info_parts infoIt
  exact wp_append_own _ s x 22 ho base 36 i0 _ 6 48 Try.underlying22 hi hz0 hz1 hz2 rfl (by decide) v n (its ys) hs hown ad m c (its xs) hx (by rw [its_len, hl]) hc (its_one xs) (by unfold maxLen; omega) (by omega) hbase (fun v' w' h2 h3 _ => h v' w' (hid (by rw [its_app]; exact h2)) (hid h3))
theorem part_cells {w : World} {g c : Nat} {l : List It} (h : Li w (some ⟨g, 0, none⟩) c l) (a b : Nat) (hb : b ≤ l.length) : ∀ j u, (its ((l.take b).drop a))[j]? = some u → w.cell? ((⟨g, a * 6, none⟩ : Addr).add j) = some u := by
  intro j u hj
  obtain ⟨_, hcl⟩ := own_cells h
  have e : its ((l.take b).drop a) = (its (l.take b)).drop (a * 6) := (its_drop _ _).symm
  rw [e, List.getElem?_drop] at hj
  have e2 : its (l.take b) = (its l).take (b * 6) := (its_take _ _).symm
  rw [e2, List.getElem?_take] at hj
  split at hj
  · have := hcl (a * 6 + j) u hj
    have e3 : (⟨g, a * 6, none⟩ : Addr).add j = (⟨g, 0, none⟩ : Addr).add (a * 6 + j) := by rw [Addr.add_lit, Addr.add_lit, Nat.zero_add]
    rw [e3]
    exact this
  · cases hj
theorem own_geP {base : Nat} {w : World} {e : TypeId} {size n c : Nat} {p : Option Addr} {xs : List Value} (h : w.ownsRow base e size (.slice p n c) n xs) {g : Nat} (hg : OfP p g) : base ≤ g := by
  subst hg
  obtain ⟨_, ⟨e1, _⟩ | ⟨g', c', cur, e1, r1, _⟩⟩ := h
  · cases (Value.slice.inj e1).1
  · have := (Value.slice.inj e1).1
    injection this with this
    injection this with this
    omega
/-- between two entries. -/
structure Ox (w2 U : World) (B : Nat) (r : Int) (T b s R : List It) (pr : Option Addr) (cr : Nat) : Prop where
  cl : ∃ p1 c1 p2 c2, Cl U B r 4096 p1 c1 b p2 c2 s ∧ (∀ g, OfP p1 g ∨ OfP p2 g → w2.heap.size ≤ g) ∧ ∀ g, OfP pr g → ¬ (OfP p1 g ∨ OfP p2 g)
  li : Li U pr cr R
  gt : ∀ g, OfP pr g → w2.heap.size ≤ g
  gb : w2.heap.size ≤ B
  be : Below w2.heap.size w2 U
  pe : ((b ++ s) ++ R).Perm T
/-- the next one is entered, and the rest laid anew. -/
theorem Ox.next {w2 w7 w8 w9 : World} {B : Nat} {r : Int} {T b s D : List It} {pr p8 p9 : Option Addr} {n8 q8 n9 q9 : Nat} {l8 : List It} (hc : ∃ p1 c1 p2 c2, Cl w7 B r 4096 p1 c1 b p2 c2 s ∧ (∀ g, OfP p1 g ∨ OfP p2 g → w2.heap.size ≤ g) ∧ ∀ g, OfP pr g → ¬ (OfP p1 g ∨ OfP p2 g)) (gb : w2.heap.size ≤ B) (hbe : Below w2.heap.size w2 w7) (h8 : Below w7.heap.size w7 w8) (ho8 : w8.ownsRow w7.heap.size 36 6 (.slice p8 n8 q8) n8 (its l8)) (hg9 : w8.grownBy w9 (Value.slice p8 n8 q8).ownBlock) (ho9 : w9.ownsRow w7.heap.size 36 6 (.slice p9 n9 q9) n9 (its D)) (hd : D.length = n9) (hpe : ((b ++ s) ++ D).Perm T) : Ox w2 w9 B r T b s D p9 q9 := by
  obtain ⟨p1, c1, p2, c2, hcl, hg, _⟩ := hc
  have hb9 : Below w7.heap.size w7 w9 := h8.grown hg9 h8.size (fun k hk => own_geP ho8 (own_ofq ho8 hk))
  refine ⟨⟨p1, c1, p2, c2, hcl.on hb9, hg, fun g hg' e => ?_⟩, ?_, fun g hg' => Nat.le_trans hbe.size (own_geP ho9 hg'), gb, btr hbe hb9, hpe⟩
  · have h1 := own_geP ho9 hg'
    rcases e with e | e
    · obtain ⟨cu, hcu⟩ := hcl.l1.ty e; have := row_lt hcu; omega
    · obtain ⟨cu, hcu⟩ := hcl.l2.ty e; have := row_lt hcu; omega
  · unfold Li
    rw [hd]
    exact own_base ho9 (Nat.zero_le _)
theorem Ox.enter {w2 U : World} {B : Nat} {r : Int} {T b s R : List It} {pr : Option Addr} {cr : Nat} (h : Ox w2 U B r T b s R pr cr) (x : It) :
    Calls Try.prog 19 #[.pointer (some ⟨B, 0, none⟩), .agg #[.int .u64 x.id, .int .u32 x.mb, .int .i64 x.sd, .int .i64 x.ty, .int .i64 x.pr, .int .u64 x.qt]] U fun e w' => e = .returned (.int .i64 (rfi 4096 b s x)) ∧ Hid (∃ p1 c1 p2 c2, Cl w' B r 4096 p1 c1 (eb 4096 b s x) p2 c2 (es 4096 b s x) ∧ (∀ g, OfP p1 g ∨ OfP p2 g → w2.heap.size ≤ g) ∧ ∀ g, OfP pr g → ¬ (OfP p1 g ∨ OfP p2 g)) ∧ Hid (Li w' pr cr R) ∧ Hid (Below w2.heap.size w2 w') := by
  obtain ⟨p1, c1, p2, c2, hc, hg, ha⟩ := h.cl
  refine (enter_any B r 4096 p1 c1 b p2 c2 s x U hc).mono ?_
  rintro e w' ⟨rfl, q1, d1, q2, d2, h1, h2, h3⟩
  have hsz := h.be.size
  have hty : ∀ g, OfP pr g → g < U.heap.size := fun g hg => by obtain ⟨cu, hcu⟩ := h.li.ty hg; exact row_lt hcu
  refine ⟨rfl, hid ⟨q1, d1, q2, d2, h1, fun g hg' => ?_, fun g hg' e => ?_⟩, hid (h.li.kept h3 (fun g hg' e => ?_)), hid (h.be.trans (h3.below hsz (fun g hg' e => ?_)))⟩
  · rcases h2 g hg' with e | e
    · exact hg g e
    · omega
  · rcases h2 g e with e | e
    · exact ha g hg' e
    · have := hty g hg'; omega
  · rcases e with e | e
    · obtain ⟨cu, hcu⟩ := h.li.ty hg'; exact row_ne hcu hc.row (by decide) e
    · exact ha g hg' e
  · have := h.gb
    rcases e with e | e
    · omega
    · have := hg g e; omega
theorem Ox.drop {w2 U : World} {B : Nat} {r : Int} {T b s R : List It} {pr : Option Addr} {cr : Nat} (x : It) (hr : rfi 4096 b s x = 0) (hcl : ∃ p1 c1 p2 c2, Cl U B r 4096 p1 c1 (eb 4096 b s x) p2 c2 (es 4096 b s x) ∧ (∀ g, OfP p1 g ∨ OfP p2 g → w2.heap.size ≤ g) ∧ ∀ g, OfP pr g → ¬ (OfP p1 g ∨ OfP p2 g)) (hli : Li U pr cr R) (hbe : Below w2.heap.size w2 U) (gt : ∀ g, OfP pr g → w2.heap.size ≤ g) (gb : w2.heap.size ≤ B) (hpe : ((b ++ s) ++ R).Perm T) :
    Calls Try.prog 20 #[.pointer (some ⟨B, 0, none⟩), .int .u64 x.id] U fun e w' => (∃ v, e = .returned v) ∧ Hid (Ox w2 w' B r T b s R pr cr) := by
  obtain ⟨p1, c1, p2, c2, hc, hg, ha⟩ := hcl
  refine (drop_more B r 4096 p1 c1 b p2 c2 s x U hr hc).mono ?_
  rintro e w' ⟨he, h1, h3⟩
  refine ⟨he, hid ⟨⟨p1, c1, p2, c2, h1, hg, ha⟩, hli.kept h3 (fun g hg' e => ?_), gt, gb, hbe.trans (h3.below hbe.size (fun g hg' e => ?_)), hpe⟩⟩
  · rcases e with e | e
    · obtain ⟨cu, hcu⟩ := hli.ty hg'; exact row_ne hcu hc.row (by decide) e
    · exact ha g hg' e
  · rcases e with e | e
    · omega
    · have := hg g e; omega
theorem order_bad (r : Int) (q : Option Addr) (n cap : Nat) (q' : Option Addr) (n' cap' : Nat) (x : It) (w : World) (hr : isP r = false) : Calls Try.prog 6 #[.int .i64 r, .slice q n cap, .slice q' n' cap', .agg #[.int .u64 x.id, .int .u32 x.mb, .int .i64 x.sd, .int .i64 x.ty, .int .i64 x.pr, .int .u64 x.qt]] w fun e w' => e = .returned (.bool true) ∧ Below w.heap.size w w' := by
  have CL := hid (fun U => lives_any U)
  have CE := hid (fun U => entered_bad r q n cap U hr)
  by_cases h0 : r < 0
  · go_enter Try.func6, Try.ntmps6
    go_wp2_with (first | (go_at_call 9; with_reducible refine (CL.out _).mono ?_; rintro e w1 ⟨rfl, hb⟩; have V1 := hid (btr (ball _ _) hb); clear hb) | (go_at_call 10; with_reducible refine (CE.out _).mono ?_; rintro e w2 ⟨rfl, rfl⟩))
    go_ret
    exact ⟨rfl, V1.out⟩
  · have h1 : 262144 ≤ r := by simp only [isP, decide_eq_false_iff_not] at hr; omega
    go_enter Try.func6, Try.ntmps6
    go_wp2_with (first | (go_at_call 9; with_reducible refine (CL.out _).mono ?_; rintro e w1 ⟨rfl, hb⟩; have V1 := hid (btr (ball _ _) hb); clear hb) | (go_at_call 10; with_reducible refine (CE.out _).mono ?_; rintro e w2 ⟨rfl, rfl⟩))
    go_ret
    exact ⟨rfl, V1.out⟩
def slen : Value → Nat
  | .slice _ n _ => n
  | _ => 0
theorem order_ok (r : Int) (q : Option Addr) (cap : Nat) (l : List It) (q' : Option Addr) (cap' : Nat) (ps : List Int) (x : It) (w : World) (h : Iz w q l) (hm : l.length ≤ maxLen) (hp : Pz w q' ps) (hpm : ps.length ≤ maxLen) (hr : isP r = true) : Calls Try.prog 6 #[.int .i64 r, .slice q l.length cap, .slice q' ps.length cap', .agg #[.int .u64 x.id, .int .u32 x.mb, .int .i64 x.sd, .int .i64 x.ty, .int .i64 x.pr, .int .u64 x.qt]] w fun e w' => e = .returned (.bool true) ∧ Below w.heap.size w w' := by
  obtain ⟨M, hM⟩ : ∃ R, w.heap.size = R := ⟨_, rfl⟩
  obtain ⟨W, hW⟩ : ∃ W, w.alloc (.cells #[.int .u64 x.id, .int .u32 x.mb, .int .i64 x.sd, .int .i64 x.ty, .int .i64 x.pr, .int .u64 x.qt] 36) = W := ⟨_, rfl⟩
  have HBW := hid (show Below w.heap.size w W from by rw [← hW]; exact ball _ _)
  have HMR := hid (show W.heap[M]? = some (.cells #[.int .u64 x.id, .int .u32 x.mb, .int .i64 x.sd, .int .i64 x.ty, .int .i64 x.pr, .int .u64 x.qt] 36 (0, 0)) from by rw [← hW, ← hM]; exact World.alloc_heap_new _ _)
  have CL := hid (fun U => lives_any U)
  have CE := hid (fun (U : World) (hU : Below W.heap.size W U) => entered_et r q cap l W U hU (h.on HBW.out) hm hr)
  have HTK := hid (show Tkn (etd 4096 l).2.2 from by have := etd_tkn (m := 4096) l l.length (Nat.le_refl _); rw [List.take_of_length_le (Nat.le_refl _)] at this; exact this)
  have hk : nwk r 4096 = true := by simp [nwk, hr]
  have CN := hid (fun U => (new_ok r 4096 U hk).mono (R' := fun e w' => e = .returned (.tuple #[.pointer (some ⟨U.heap.size, 0, none⟩), .int .i64 0]) ∧ Hid (w' = U.alloc (.cells #[.int .i64 r, .int .i64 4096, .slice none 0 0, .slice none 0 0] 68))) (fun e w' h => ⟨h.1, hid h.2⟩))
  have HCN := hid (fun U => Cl.new U hk)
  obtain ⟨xs, hxs⟩ : ∃ x, (etd 4096 l).1 = x := ⟨_, rfl⟩
  obtain ⟨ys, hys⟩ : ∃ x, (etd 4096 l).2.1 = x := ⟨_, rfl⟩
  obtain ⟨T, hT⟩ : ∃ x, (etd 4096 l).2.2 = x := ⟨_, rfl⟩
  rw [hxs, hys, hT] at CE
  rw [hT] at HTK
  obtain ⟨n, hn⟩ : ∃ n, l.length = n := ⟨_, rfl⟩
  rw [hn] at CE ⊢
  obtain ⟨nt, hnt⟩ : ∃ n, T.length = n := ⟨_, rfl⟩
  rw [hnt] at CE
  have HNT := hid hnt
  obtain ⟨np, hnp⟩ : ∃ n, ps.length = n := ⟨_, rfl⟩
  rw [hnp] at hpm ⊢
  have HNP := hid hnp
  have HP := hid (hp.on HBW.out)
  unfold maxLen at hpm
  have HW := hid hW
  have HMM := hid hM
  clear h hm hr hxs hys hn hT hnt hnp hp hk hW hM
  have pq := ptr_nil
  go_enter Try.func6, Try.ntmps6
  go_upto_region 1 with fail
  rw [HW.out, HMM.out]
  go_upto_region 7 with (first | (go_at_call 9; with_reducible refine (CL.out _).mono ?_; rintro e w1 ⟨rfl, hb⟩; have V1 := hid hb; clear hb) | (go_at_call 10; with_reducible refine (CE.out _ V1.out).mono ?_; rintro e w2 ⟨B, pt, ct, rfl, E2⟩) | (go_at_call 18; with_reducible refine (CN.out _).mono ?_; rintro e w3 ⟨rfl, HW3⟩))
  obtain ⟨B2, hB2⟩ : ∃ g, w2.heap.size = g := ⟨_, rfl⟩
  rw [hB2]
  have C3 := hid (show Cl w3 B2 r 4096 none 0 [] none 0 [] from by rw [← hB2, HW3.out]; exact HCN.out w2)
  have V3 := hid (show Below w2.heap.size w2 w3 from by rw [HW3.out]; exact ball _ _)
  have HB2 := hid hB2
  have E3 := hid (E2.out.on V3.out)
  have hnt4 := E2.out.len
  rw [HNT.out] at hnt4
  have HMD := hid (made0 (w := w3) w3 36 6 (Nat.le_refl w3.heap.size))
  have HTO := hid (show (w3.alloc (.cells #[] 36)).ownsRow 0 36 6 (.slice pt nt ct) nt (its T) from by have := E3.out.li.on (ball w3 (.cells #[] 36)); unfold Li at this; rw [HNT.out] at this; exact this)
  go_upto_region 8 with (at_builtin; refine wpList_app_mine (by rfl) (.tmp 41) (.tmp 42) 22 36 _ 6 48 (by rfl) Try.underlying22 infoIt rfl (by decide) w3.heap.size 0 _ 0 [] (by rfl) HMD.out pt ct nt (its T) (by rfl) HTO.out (its_one T) (by unfold maxLen; omega) (by omega) (by simp) ?_; intro v' w4 hown hgrow; obtain ⟨pm, cm, rfl⟩ := own_form hown; have HO4 := hid hown; have HG4 := hid hgrow; clear hown hgrow)
  have O0 := hid (show Ox w2 w4 B2 r T [] [] T pm cm from by
    have hO2 : w4.ownsRow w3.heap.size 36 6 (.slice pm (0 + nt) cm) (0 + nt) (its T) := HO4.out
    simp only [Nat.zero_add] at hO2
    have hb4 : Below w3.heap.size w3 w4 := (ball _ _).grown HG4.out (by simp) (fun j hj => by cases hj; exact Nat.le_refl _)
    have hge : ∀ g, OfP pm g → w3.heap.size ≤ g := fun g hg => by
      subst hg
      obtain ⟨_, ⟨e1, _⟩ | ⟨g', c', cur, e1, r1, _⟩⟩ := hO2
      · cases (Value.slice.inj e1).1
      · have := (Value.slice.inj e1).1
        injection this with this
        injection this with this
        omega
    refine ⟨⟨none, 0, none, 0, C3.out.on hb4, (fun g h => h.elim (fun h => by cases h) (fun h => by cases h)), fun g _ h => h.elim (fun h => by cases h) (fun h => by cases h)⟩, ?_, fun g hg => Nat.le_trans V3.out.size (hge g hg), Nat.le_of_eq HB2.out, btr V3.out hb4, List.Perm.refl _⟩
    unfold Li
    rw [HNT.out]
    exact own_base hO2 (Nat.zero_le _))
  clear HMD HTO HO4 HG4 CE CL CN HCN C3 hB2
  go_upto_region 9 with fail
  go_loopw [13, 14] (fun sv iv wr => ∃ (i nr cr : Nat) (pr : Option Addr) (b s R : List It), sv = .slice pr nr cr ∧ iv = .int .i64 i ∧ i + nr ≤ 4096 ∧ Hid (R.length = nr) ∧ Hid (Ox w2 wr B2 r T b s R pr cr)) (fun sv _ _ => slen sv)
  case atStart => exact ⟨0, nt, cm, pm, [], [], T, rfl, rfl, by omega, HNT, O0⟩
  case round =>
    obtain ⟨i, nr, cr, pr, b, s, R, rfl, rfl, hin, HNR, HO⟩ := hrel
    clear O0
    by_cases hnr : 0 < nr
    · obtain ⟨g, cu, hpr, hgr, _, hrc, hcm, _⟩ := HO.out.li.some (by rw [HNR.out]; exact hnr)
      subst hpr
      rw [HNR.out] at hrc
      have hcap := HO.out.li.cap.2
      have n0 : (0 : Int) < (nr : Int) := by omega
      have nz : ((nr : Int) == 0) = false := by simp; omega
      have nz2 : ¬ (nr : Int) = 0 := by omega
      clear hgr
      have i0 : (0 : Int) ≤ (i : Int) := by omega
      by_cases hlt : i < np
      · have j1 : (i : Int) < (np : Int) := by omega
        have hj : i < ps.length := by rw [HNP.out]; exact hlt
        obtain ⟨bb, off, hq', _, a0⟩ := (HP.out.on (btr E2.out.ec.be HO.out.be)) i hj
        subst hq'
        obtain ⟨c, hc⟩ : ∃ z, ps[i] = z := ⟨_, rfl⟩
        rw [hc] at a0
        have tl := Int.tmod_lt_of_pos c n0
        have tg := Int.lt_tmod_of_pos c n0
        by_cases ht : c.tmod (nr : Int) < 0
        · obtain ⟨t, tm⟩ : ∃ t : Int, c.tmod (nr : Int) = t := ⟨_, rfl⟩
          rw [tm] at ht tl tg
          obtain ⟨kk, hkk⟩ : ∃ kk : Nat, t + (nr : Int) = (kk : Int) := ⟨(t + (nr : Int)).toNat, by omega⟩
          have tw : IntKind.i64.wrap (t + (nr : Int)) = (kk : Int) := by rw [IntKind.wrap_i64]; omega
          have hkn : kk < nr := by omega
          have k0 : (0 : Int) ≤ (kk : Int) := by omega
          have k1 : (kk : Int) < (nr : Int) := by omega
          clear tl tg hc hkk
          go_upto_region 16 with fail
          clear a0 tm tw ht
          by_cases hi1 : i = 1
          · have t1 : ((i : Int) == 1) = true := by simp; omega
            obtain ⟨m0, m1, m2, m3, m4, m5⟩ := row6 (row_on (row_on HMR.out E2.out.ec.be) HO.out.be)
            have CEM := hid (HO.out.enter x)
            obtain ⟨v, hv⟩ : ∃ v, rfi 4096 b s x = v := ⟨_, rfl⟩
            rw [hv] at CEM
            by_cases hv0 : v = 0
            · have hrx : rfi 4096 b s x = 0 := by rw [hv]; exact hv0
              rw [hv0] at CEM
              have CDM := hid (fun (U : World) hcl hli hbe => Ox.drop (w2 := w2) (U := U) (B := B2) (r := r) (T := T) (b := b) (s := s) (R := R) (pr := some ⟨g, 0, none⟩) (cr := cr) x hrx hcl hli hbe HO.out.gt HO.out.gb HO.out.pe)
              have HMV := hid (fun (U : World) (hU : Below w2.heap.size w2 U) => row6 (row_on (row_on HMR.out E2.out.ec.be) hU))
              clear hv hrx hv0
              go_upto_region 17 with (go_at_call 19; with_reducible refine (CEM.out).mono ?_; rintro e w5 ⟨rfl, CL5, LI5, BE5⟩)
              clear m0 m1 m2 m3 m4 m5
              obtain ⟨m0, m1, m2, m3, m4, m5⟩ := HMV.out w5 BE5.out
              go_upto_region 18 with (go_at_call 20; refine (CDM.out _ CL5.out LI5.out BE5.out).mono ?_; rintro e w6 ⟨⟨vv, rfl⟩, O6⟩)
              clear m0 m1 m2 m3 m4 m5
              have hk : kk < R.length := by rw [HNR.out]; exact hkn
              obtain ⟨g', eg, a0, a1, a2, a3, a4, a5⟩ := O6.out.li.cells hk
              obtain rfl : g = g' := by injection eg with eg; injection eg
              clear eg
              have hrf := rfi_rest HTK.out O6.out.pe (List.getElem_mem hk) (by rw [HNT.out]; exact hnt4)
              have CE2 := hid (O6.out.enter R[kk])
              have HNX := hid (next_perm O6.out.pe hk hrf)
              rw [hrf] at CE2
              obtain ⟨z, hz⟩ : ∃ z, R[kk] = z := ⟨_, rfl⟩
              rw [hz] at a0 a1 a2 a3 a4 a5 CE2 HNX
              clear hz hrf hk
              go_upto_region 20 with (go_at_call 19; with_reducible refine (CE2.out).mono ?_; rintro e w7 ⟨rfl, CL7, LI7, BE7⟩)
              clear a0 a1 a2 a3 a4 a5
              have kc : (kk : Int) ≤ (cr : Int) := by omega
              have k2 : (kk : Int) + 1 ≤ (nr : Int) := by omega
              have k3 : (0 : Int) ≤ (kk : Int) + 1 := by omega
              have kw : IntKind.i64.wrap ((kk : Int) + 1) = (kk : Int) + 1 := by rw [IntKind.wrap_i64]; omega
              have HOW := hid (show (w7.drew.alloc (.cells #[] 36)).ownsRow w7.heap.size 36 6 (.slice (some ⟨w7.heap.size, 0, none⟩) 0 0) 0 (its []) from made0 (w := w7) w7.drew 36 6 (Nat.le_refl _))
              have HLA := hid (show Li (w7.drew.alloc (.cells #[] 36)) (some ⟨g, 0, none⟩) cr R from LI7.out.on (btr (bdrew1 w7) (ball _ _)))
              have HPC := hid (fun j u (hj : (its (R.take kk))[j]? = some u) => part_cells HLA.out 0 kk (by rw [HNR.out]; omega) j u (by rw [List.drop_zero]; exact hj))
              have HGL := hid (show g < w7.heap.size from by obtain ⟨cu, hcu⟩ := LI7.out.ty (OfP.mk g); exact row_lt hcu)
              obtain ⟨AD, hAD⟩ : ∃ ad : Addr, (if cr = kk + 1 then some ⟨g, 0, none⟩ else some ⟨g, (kk + 1) * 6, none⟩ : Option Addr) = some ad := by
                by_cases hcc : cr = kk + 1
                · exact ⟨_, if_pos hcc⟩
                · exact ⟨_, if_neg hcc⟩
              have HAD := hid hAD
              clear hAD
              have HA1 := hid (show ∀ (w8 : World) (p8 : Option Addr) (q8 : Nat), w8.ownsRow w7.heap.size 36 6 (.slice p8 (0 + kk) q8) (0 + kk) (its ([] ++ R.take kk)) → (w7.drew.alloc (.cells #[] 36)).grownBy w8 (Value.slice (some ⟨w7.heap.size, 0, none⟩) 0 0).ownBlock → w8.ownsRow w7.heap.size 36 6 (.slice p8 kk q8) kk (its (R.take kk)) ∧ Below w7.heap.size w7 w8 ∧ ∀ j u, (its (R.drop (kk + 1)))[j]? = some u → w8.cell? (AD.add j) = some u from fun w8 p8 q8 hown hgrow => by
                have hgl := HGL.out
                have hl8 : Li w8 (some ⟨g, 0, none⟩) cr R := HLA.out.same (fun b hb => by
                  rw [hb.eq]
                  exact hgrow.block g (by simp; omega) (fun e => by have e2 : some g = some w7.heap.size := e; injection e2 with e2; omega))
                refine ⟨by simpa using hown, (btr (bdrew1 w7) (ball _ _)).grown hgrow (by simp) (fun j hj => by cases hj; exact Nat.le_refl _), fun j u hj => ?_⟩
                have had := HAD.out
                by_cases hcc : cr = kk + 1
                · have : R.drop (kk + 1) = [] := List.drop_of_length_le (by rw [HNR.out]; omega)
                  rw [this] at hj
                  simp [its] at hj
                · rw [if_neg hcc] at had
                  injection had with had
                  rw [← had]
                  exact part_cells hl8 (kk + 1) R.length (Nat.le_refl _) j u (by rw [List.take_of_length_le (Nat.le_refl _)]; exact hj))
              have HP1 := hid (show ∀ j u, (its (R.take kk))[j]? = some u → (w7.drew.alloc (.cells #[] 36)).cell? ((⟨g, 0, none⟩ : Addr).add j) = some u from fun j u hj => by have := HPC.out j u hj; rw [Nat.zero_mul] at this; exact this)
              have HL1 := hid (show (R.take kk).length = kk from by rw [List.length_take, HNR.out]; omega)
              have HL2 := hid (show (R.drop (kk + 1)).length = nr - (kk + 1) from by rw [List.length_drop, HNR.out])
              go_region_law (first | (refine step_app_at (by rfl) (.tmp 85) (.tmp 88) (by rfl) w7.heap.size _ 0 [] (by rfl) HOW.out (some ⟨g, 0, none⟩) ⟨g, 0, none⟩ rfl cr kk (R.take kk) (by rfl) HL1.out HP1.out (by omega) (by simp) ?_; intro v' w8 hown hgrow; obtain ⟨p8, q8, rfl⟩ := own_form hown.out; have HO8 := hid (HA1.out w8 p8 q8 hown.out hgrow.out); clear hown hgrow) | (refine step_app_at (by rfl) (.tmp 89) (.tmp 93) (by rfl) w7.heap.size _ kk (R.take kk) (by rfl) HO8.out.1 (if cr = kk + 1 then some ⟨g, 0, none⟩ else some ⟨g, (kk + 1) * 6, none⟩) AD HAD.out (cr - (kk + 1)) (nr - (kk + 1)) (R.drop (kk + 1)) (by rfl) HL2.out HO8.out.2.2 (by omega) HO8.out.2.1.size ?_; intro v' w9 hown hgrow; obtain ⟨p9, q9, rfl⟩ := own_form hown.out; have HO9 := hid hown.out; have HG9 := hid hgrow.out; clear hown hgrow))
              go_wp2
              go_roundw
              case rel =>
                have hdl : (R.take kk ++ R.drop (kk + 1)).length = kk + (nr - (kk + 1)) := by rw [List.length_append, HL1.out, HL2.out]
                exact ⟨i + 1, kk + (nr - (kk + 1)), q9, p9, _, _, cutAt kk R, by first | rfl | simp, by go_num, by omega, hid hdl, hid (Ox.next CL7.out HO.out.gb BE7.out HO8.out.2.1 HO8.out.1 HG9.out HO9.out hdl HNX.out)⟩
              case measure => simp only [slen]; omega
            · have tv : (v == 0) = false := by simpa using hv0
              have hrx : ¬ rfi 4096 b s x = 0 := by rw [hv]; exact hv0
              have HEB := hid (show eb 4096 b s x = b ∧ es 4096 b s x = s from ⟨by unfold eb; rw [if_neg (by omega)], by unfold es; rw [if_neg (by omega)]⟩)
              clear hv hrx hv0
              go_upto_region 18 with (go_at_call 19; with_reducible refine (CEM.out).mono ?_; rintro e w5 ⟨rfl, CL5, LI5, BE5⟩)
              clear m0 m1 m2 m3 m4 m5
              have O5' := hid (show Ox w2 w5 B2 r T b s R (some ⟨g, 0, none⟩) cr from by
                have hcl := CL5.out
                rw [HEB.out.1, HEB.out.2] at hcl
                exact ⟨hcl, LI5.out, HO.out.gt, HO.out.gb, BE5.out, HO.out.pe⟩)
              have hk : kk < R.length := by rw [HNR.out]; exact hkn
              obtain ⟨g', eg, a0, a1, a2, a3, a4, a5⟩ := O5'.out.li.cells hk
              obtain rfl : g = g' := by injection eg with eg; injection eg
              clear eg
              have hrf := rfi_rest HTK.out O5'.out.pe (List.getElem_mem hk) (by rw [HNT.out]; exact hnt4)
              have CE2 := hid (O5'.out.enter R[kk])
              have HNX := hid (next_perm O5'.out.pe hk hrf)
              rw [hrf] at CE2
              obtain ⟨z, hz⟩ : ∃ z, R[kk] = z := ⟨_, rfl⟩
              rw [hz] at a0 a1 a2 a3 a4 a5 CE2 HNX
              clear hz hrf hk
              go_upto_region 20 with (go_at_call 19; with_reducible refine (CE2.out).mono ?_; rintro e w7 ⟨rfl, CL7, LI7, BE7⟩)
              clear a0 a1 a2 a3 a4 a5
              have kc : (kk : Int) ≤ (cr : Int) := by omega
              have k2 : (kk : Int) + 1 ≤ (nr : Int) := by omega
              have k3 : (0 : Int) ≤ (kk : Int) + 1 := by omega
              have kw : IntKind.i64.wrap ((kk : Int) + 1) = (kk : Int) + 1 := by rw [IntKind.wrap_i64]; omega
              have HOW := hid (show (w7.drew.alloc (.cells #[] 36)).ownsRow w7.heap.size 36 6 (.slice (some ⟨w7.heap.size, 0, none⟩) 0 0) 0 (its []) from made0 (w := w7) w7.drew 36 6 (Nat.le_refl _))
              have HLA := hid (show Li (w7.drew.alloc (.cells #[] 36)) (some ⟨g, 0, none⟩) cr R from LI7.out.on (btr (bdrew1 w7) (ball _ _)))
              have HPC := hid (fun j u (hj : (its (R.take kk))[j]? = some u) => part_cells HLA.out 0 kk (by rw [HNR.out]; omega) j u (by rw [List.drop_zero]; exact hj))
              have HGL := hid (show g < w7.heap.size from by obtain ⟨cu, hcu⟩ := LI7.out.ty (OfP.mk g); exact row_lt hcu)
              obtain ⟨AD, hAD⟩ : ∃ ad : Addr, (if cr = kk + 1 then some ⟨g, 0, none⟩ else some ⟨g, (kk + 1) * 6, none⟩ : Option Addr) = some ad := by
                by_cases hcc : cr = kk + 1
                · exact ⟨_, if_pos hcc⟩
                · exact ⟨_, if_neg hcc⟩
              have HAD := hid hAD
              clear hAD
              have HA1 := hid (show ∀ (w8 : World) (p8 : Option Addr) (q8 : Nat), w8.ownsRow w7.heap.size 36 6 (.slice p8 (0 + kk) q8) (0 + kk) (its ([] ++ R.take kk)) → (w7.drew.alloc (.cells #[] 36)).grownBy w8 (Value.slice (some ⟨w7.heap.size, 0, none⟩) 0 0).ownBlock → w8.ownsRow w7.heap.size 36 6 (.slice p8 kk q8) kk (its (R.take kk)) ∧ Below w7.heap.size w7 w8 ∧ ∀ j u, (its (R.drop (kk + 1)))[j]? = some u → w8.cell? (AD.add j) = some u from fun w8 p8 q8 hown hgrow => by
                have hgl := HGL.out
                have hl8 : Li w8 (some ⟨g, 0, none⟩) cr R := HLA.out.same (fun b hb => by
                  rw [hb.eq]
                  exact hgrow.block g (by simp; omega) (fun e => by have e2 : some g = some w7.heap.size := e; injection e2 with e2; omega))
                refine ⟨by simpa using hown, (btr (bdrew1 w7) (ball _ _)).grown hgrow (by simp) (fun j hj => by cases hj; exact Nat.le_refl _), fun j u hj => ?_⟩
                have had := HAD.out
                by_cases hcc : cr = kk + 1
                · have : R.drop (kk + 1) = [] := List.drop_of_length_le (by rw [HNR.out]; omega)
                  rw [this] at hj
                  simp [its] at hj
                · rw [if_neg hcc] at had
                  injection had with had
                  rw [← had]
                  exact part_cells hl8 (kk + 1) R.length (Nat.le_refl _) j u (by rw [List.take_of_length_le (Nat.le_refl _)]; exact hj))
              have HP1 := hid (show ∀ j u, (its (R.take kk))[j]? = some u → (w7.drew.alloc (.cells #[] 36)).cell? ((⟨g, 0, none⟩ : Addr).add j) = some u from fun j u hj => by have := HPC.out j u hj; rw [Nat.zero_mul] at this; exact this)
              have HL1 := hid (show (R.take kk).length = kk from by rw [List.length_take, HNR.out]; omega)
              have HL2 := hid (show (R.drop (kk + 1)).length = nr - (kk + 1) from by rw [List.length_drop, HNR.out])
              go_region_law (first | (refine step_app_at (by rfl) (.tmp 85) (.tmp 88) (by rfl) w7.heap.size _ 0 [] (by rfl) HOW.out (some ⟨g, 0, none⟩) ⟨g, 0, none⟩ rfl cr kk (R.take kk) (by rfl) HL1.out HP1.out (by omega) (by simp) ?_; intro v' w8 hown hgrow; obtain ⟨p8, q8, rfl⟩ := own_form hown.out; have HO8 := hid (HA1.out w8 p8 q8 hown.out hgrow.out); clear hown hgrow) | (refine step_app_at (by rfl) (.tmp 89) (.tmp 93) (by rfl) w7.heap.size _ kk (R.take kk) (by rfl) HO8.out.1 (if cr = kk + 1 then some ⟨g, 0, none⟩ else some ⟨g, (kk + 1) * 6, none⟩) AD HAD.out (cr - (kk + 1)) (nr - (kk + 1)) (R.drop (kk + 1)) (by rfl) HL2.out HO8.out.2.2 (by omega) HO8.out.2.1.size ?_; intro v' w9 hown hgrow; obtain ⟨p9, q9, rfl⟩ := own_form hown.out; have HO9 := hid hown.out; have HG9 := hid hgrow.out; clear hown hgrow))
              go_wp2
              go_roundw
              case rel =>
                have hdl : (R.take kk ++ R.drop (kk + 1)).length = kk + (nr - (kk + 1)) := by rw [List.length_append, HL1.out, HL2.out]
                exact ⟨i + 1, kk + (nr - (kk + 1)), q9, p9, _, _, cutAt kk R, by first | rfl | simp, by go_num, by omega, hid hdl, hid (Ox.next CL7.out HO.out.gb BE7.out HO8.out.2.1 HO8.out.1 HG9.out HO9.out hdl HNX.out)⟩
              case measure => simp only [slen]; omega
          · have t1 : ((i : Int) == 1) = false := by simp; omega
            have t2 : ¬ (i : Int) = 1 := by omega
            go_upto_region 18 with fail
            have hk : kk < R.length := by rw [HNR.out]; exact hkn
            obtain ⟨g', eg, a0, a1, a2, a3, a4, a5⟩ := HO.out.li.cells hk
            obtain rfl : g = g' := by injection eg with eg; injection eg
            clear eg
            have hrf := rfi_rest HTK.out HO.out.pe (List.getElem_mem hk) (by rw [HNT.out]; exact hnt4)
            have CE2 := hid (HO.out.enter R[kk])
            have HNX := hid (next_perm HO.out.pe hk hrf)
            rw [hrf] at CE2
            obtain ⟨z, hz⟩ : ∃ z, R[kk] = z := ⟨_, rfl⟩
            rw [hz] at a0 a1 a2 a3 a4 a5 CE2 HNX
            clear hz hrf hk
            go_upto_region 20 with (go_at_call 19; with_reducible refine (CE2.out).mono ?_; rintro e w7 ⟨rfl, CL7, LI7, BE7⟩)
            clear a0 a1 a2 a3 a4 a5
            have kc : (kk : Int) ≤ (cr : Int) := by omega
            have k2 : (kk : Int) + 1 ≤ (nr : Int) := by omega
            have k3 : (0 : Int) ≤ (kk : Int) + 1 := by omega
            have kw : IntKind.i64.wrap ((kk : Int) + 1) = (kk : Int) + 1 := by rw [IntKind.wrap_i64]; omega
            have HOW := hid (show (w7.drew.alloc (.cells #[] 36)).ownsRow w7.heap.size 36 6 (.slice (some ⟨w7.heap.size, 0, none⟩) 0 0) 0 (its []) from made0 (w := w7) w7.drew 36 6 (Nat.le_refl _))
            have HLA := hid (show Li (w7.drew.alloc (.cells #[] 36)) (some ⟨g, 0, none⟩) cr R from LI7.out.on (btr (bdrew1 w7) (ball _ _)))
            have HPC := hid (fun j u (hj : (its (R.take kk))[j]? = some u) => part_cells HLA.out 0 kk (by rw [HNR.out]; omega) j u (by rw [List.drop_zero]; exact hj))
            have HGL := hid (show g < w7.heap.size from by obtain ⟨cu, hcu⟩ := LI7.out.ty (OfP.mk g); exact row_lt hcu)
            obtain ⟨AD, hAD⟩ : ∃ ad : Addr, (if cr = kk + 1 then some ⟨g, 0, none⟩ else some ⟨g, (kk + 1) * 6, none⟩ : Option Addr) = some ad := by
              by_cases hcc : cr = kk + 1
              · exact ⟨_, if_pos hcc⟩
              · exact ⟨_, if_neg hcc⟩
            have HAD := hid hAD
            clear hAD
            have HA1 := hid (show ∀ (w8 : World) (p8 : Option Addr) (q8 : Nat), w8.ownsRow w7.heap.size 36 6 (.slice p8 (0 + kk) q8) (0 + kk) (its ([] ++ R.take kk)) → (w7.drew.alloc (.cells #[] 36)).grownBy w8 (Value.slice (some ⟨w7.heap.size, 0, none⟩) 0 0).ownBlock → w8.ownsRow w7.heap.size 36 6 (.slice p8 kk q8) kk (its (R.take kk)) ∧ Below w7.heap.size w7 w8 ∧ ∀ j u, (its (R.drop (kk + 1)))[j]? = some u → w8.cell? (AD.add j) = some u from fun w8 p8 q8 hown hgrow => by
              have hgl := HGL.out
              have hl8 : Li w8 (some ⟨g, 0, none⟩) cr R := HLA.out.same (fun b hb => by
                rw [hb.eq]
                exact hgrow.block g (by simp; omega) (fun e => by have e2 : some g = some w7.heap.size := e; injection e2 with e2; omega))
              refine ⟨by simpa using hown, (btr (bdrew1 w7) (ball _ _)).grown hgrow (by simp) (fun j hj => by cases hj; exact Nat.le_refl _), fun j u hj => ?_⟩
              have had := HAD.out
              by_cases hcc : cr = kk + 1
              · have : R.drop (kk + 1) = [] := List.drop_of_length_le (by rw [HNR.out]; omega)
                rw [this] at hj
                simp [its] at hj
              · rw [if_neg hcc] at had
                injection had with had
                rw [← had]
                exact part_cells hl8 (kk + 1) R.length (Nat.le_refl _) j u (by rw [List.take_of_length_le (Nat.le_refl _)]; exact hj))
            have HP1 := hid (show ∀ j u, (its (R.take kk))[j]? = some u → (w7.drew.alloc (.cells #[] 36)).cell? ((⟨g, 0, none⟩ : Addr).add j) = some u from fun j u hj => by have := HPC.out j u hj; rw [Nat.zero_mul] at this; exact this)
            have HL1 := hid (show (R.take kk).length = kk from by rw [List.length_take, HNR.out]; omega)
            have HL2 := hid (show (R.drop (kk + 1)).length = nr - (kk + 1) from by rw [List.length_drop, HNR.out])
            go_region_law (first | (refine step_app_at (by rfl) (.tmp 85) (.tmp 88) (by rfl) w7.heap.size _ 0 [] (by rfl) HOW.out (some ⟨g, 0, none⟩) ⟨g, 0, none⟩ rfl cr kk (R.take kk) (by rfl) HL1.out HP1.out (by omega) (by simp) ?_; intro v' w8 hown hgrow; obtain ⟨p8, q8, rfl⟩ := own_form hown.out; have HO8 := hid (HA1.out w8 p8 q8 hown.out hgrow.out); clear hown hgrow) | (refine step_app_at (by rfl) (.tmp 89) (.tmp 93) (by rfl) w7.heap.size _ kk (R.take kk) (by rfl) HO8.out.1 (if cr = kk + 1 then some ⟨g, 0, none⟩ else some ⟨g, (kk + 1) * 6, none⟩) AD HAD.out (cr - (kk + 1)) (nr - (kk + 1)) (R.drop (kk + 1)) (by rfl) HL2.out HO8.out.2.2 (by omega) HO8.out.2.1.size ?_; intro v' w9 hown hgrow; obtain ⟨p9, q9, rfl⟩ := own_form hown.out; have HO9 := hid hown.out; have HG9 := hid hgrow.out; clear hown hgrow))
            go_wp2
            go_roundw
            case rel =>
              have hdl : (R.take kk ++ R.drop (kk + 1)).length = kk + (nr - (kk + 1)) := by rw [List.length_append, HL1.out, HL2.out]
              exact ⟨i + 1, kk + (nr - (kk + 1)), q9, p9, _, _, cutAt kk R, by first | rfl | simp, by go_num, by omega, hid hdl, hid (Ox.next CL7.out HO.out.gb BE7.out HO8.out.2.1 HO8.out.1 HG9.out HO9.out hdl HNX.out)⟩
            case measure => simp only [slen]; omega
        · obtain ⟨kk, tm⟩ : ∃ kk : Nat, c.tmod (nr : Int) = (kk : Int) := ⟨(c.tmod (nr : Int)).toNat, by omega⟩
          have hkn : kk < nr := by omega
          have k0 : (0 : Int) ≤ (kk : Int) := by omega
          have k1 : (kk : Int) < (nr : Int) := by omega
          clear ht tl tg hc
          go_upto_region 16 with fail
          clear a0 tm
          by_cases hi1 : i = 1
          · have t1 : ((i : Int) == 1) = true := by simp; omega
            obtain ⟨m0, m1, m2, m3, m4, m5⟩ := row6 (row_on (row_on HMR.out E2.out.ec.be) HO.out.be)
            have CEM := hid (HO.out.enter x)
            obtain ⟨v, hv⟩ : ∃ v, rfi 4096 b s x = v := ⟨_, rfl⟩
            rw [hv] at CEM
            by_cases hv0 : v = 0
            · have hrx : rfi 4096 b s x = 0 := by rw [hv]; exact hv0
              rw [hv0] at CEM
              have CDM := hid (fun (U : World) hcl hli hbe => Ox.drop (w2 := w2) (U := U) (B := B2) (r := r) (T := T) (b := b) (s := s) (R := R) (pr := some ⟨g, 0, none⟩) (cr := cr) x hrx hcl hli hbe HO.out.gt HO.out.gb HO.out.pe)
              have HMV := hid (fun (U : World) (hU : Below w2.heap.size w2 U) => row6 (row_on (row_on HMR.out E2.out.ec.be) hU))
              clear hv hrx hv0
              go_upto_region 17 with (go_at_call 19; with_reducible refine (CEM.out).mono ?_; rintro e w5 ⟨rfl, CL5, LI5, BE5⟩)
              clear m0 m1 m2 m3 m4 m5
              obtain ⟨m0, m1, m2, m3, m4, m5⟩ := HMV.out w5 BE5.out
              go_upto_region 18 with (go_at_call 20; refine (CDM.out _ CL5.out LI5.out BE5.out).mono ?_; rintro e w6 ⟨⟨vv, rfl⟩, O6⟩)
              clear m0 m1 m2 m3 m4 m5
              have hk : kk < R.length := by rw [HNR.out]; exact hkn
              obtain ⟨g', eg, a0, a1, a2, a3, a4, a5⟩ := O6.out.li.cells hk
              obtain rfl : g = g' := by injection eg with eg; injection eg
              clear eg
              have hrf := rfi_rest HTK.out O6.out.pe (List.getElem_mem hk) (by rw [HNT.out]; exact hnt4)
              have CE2 := hid (O6.out.enter R[kk])
              have HNX := hid (next_perm O6.out.pe hk hrf)
              rw [hrf] at CE2
              obtain ⟨z, hz⟩ : ∃ z, R[kk] = z := ⟨_, rfl⟩
              rw [hz] at a0 a1 a2 a3 a4 a5 CE2 HNX
              clear hz hrf hk
              go_upto_region 20 with (go_at_call 19; with_reducible refine (CE2.out).mono ?_; rintro e w7 ⟨rfl, CL7, LI7, BE7⟩)
              clear a0 a1 a2 a3 a4 a5
              have kc : (kk : Int) ≤ (cr : Int) := by omega
              have k2 : (kk : Int) + 1 ≤ (nr : Int) := by omega
              have k3 : (0 : Int) ≤ (kk : Int) + 1 := by omega
              have kw : IntKind.i64.wrap ((kk : Int) + 1) = (kk : Int) + 1 := by rw [IntKind.wrap_i64]; omega
              have HOW := hid (show (w7.drew.alloc (.cells #[] 36)).ownsRow w7.heap.size 36 6 (.slice (some ⟨w7.heap.size, 0, none⟩) 0 0) 0 (its []) from made0 (w := w7) w7.drew 36 6 (Nat.le_refl _))
              have HLA := hid (show Li (w7.drew.alloc (.cells #[] 36)) (some ⟨g, 0, none⟩) cr R from LI7.out.on (btr (bdrew1 w7) (ball _ _)))
              have HPC := hid (fun j u (hj : (its (R.take kk))[j]? = some u) => part_cells HLA.out 0 kk (by rw [HNR.out]; omega) j u (by rw [List.drop_zero]; exact hj))
              have HGL := hid (show g < w7.heap.size from by obtain ⟨cu, hcu⟩ := LI7.out.ty (OfP.mk g); exact row_lt hcu)
              obtain ⟨AD, hAD⟩ : ∃ ad : Addr, (if cr = kk + 1 then some ⟨g, 0, none⟩ else some ⟨g, (kk + 1) * 6, none⟩ : Option Addr) = some ad := by
                by_cases hcc : cr = kk + 1
                · exact ⟨_, if_pos hcc⟩
                · exact ⟨_, if_neg hcc⟩
              have HAD := hid hAD
              clear hAD
              have HA1 := hid (show ∀ (w8 : World) (p8 : Option Addr) (q8 : Nat), w8.ownsRow w7.heap.size 36 6 (.slice p8 (0 + kk) q8) (0 + kk) (its ([] ++ R.take kk)) → (w7.drew.alloc (.cells #[] 36)).grownBy w8 (Value.slice (some ⟨w7.heap.size, 0, none⟩) 0 0).ownBlock → w8.ownsRow w7.heap.size 36 6 (.slice p8 kk q8) kk (its (R.take kk)) ∧ Below w7.heap.size w7 w8 ∧ ∀ j u, (its (R.drop (kk + 1)))[j]? = some u → w8.cell? (AD.add j) = some u from fun w8 p8 q8 hown hgrow => by
                have hgl := HGL.out
                have hl8 : Li w8 (some ⟨g, 0, none⟩) cr R := HLA.out.same (fun b hb => by
                  rw [hb.eq]
                  exact hgrow.block g (by simp; omega) (fun e => by have e2 : some g = some w7.heap.size := e; injection e2 with e2; omega))
                refine ⟨by simpa using hown, (btr (bdrew1 w7) (ball _ _)).grown hgrow (by simp) (fun j hj => by cases hj; exact Nat.le_refl _), fun j u hj => ?_⟩
                have had := HAD.out
                by_cases hcc : cr = kk + 1
                · have : R.drop (kk + 1) = [] := List.drop_of_length_le (by rw [HNR.out]; omega)
                  rw [this] at hj
                  simp [its] at hj
                · rw [if_neg hcc] at had
                  injection had with had
                  rw [← had]
                  exact part_cells hl8 (kk + 1) R.length (Nat.le_refl _) j u (by rw [List.take_of_length_le (Nat.le_refl _)]; exact hj))
              have HP1 := hid (show ∀ j u, (its (R.take kk))[j]? = some u → (w7.drew.alloc (.cells #[] 36)).cell? ((⟨g, 0, none⟩ : Addr).add j) = some u from fun j u hj => by have := HPC.out j u hj; rw [Nat.zero_mul] at this; exact this)
              have HL1 := hid (show (R.take kk).length = kk from by rw [List.length_take, HNR.out]; omega)
              have HL2 := hid (show (R.drop (kk + 1)).length = nr - (kk + 1) from by rw [List.length_drop, HNR.out])
              go_region_law (first | (refine step_app_at (by rfl) (.tmp 85) (.tmp 88) (by rfl) w7.heap.size _ 0 [] (by rfl) HOW.out (some ⟨g, 0, none⟩) ⟨g, 0, none⟩ rfl cr kk (R.take kk) (by rfl) HL1.out HP1.out (by omega) (by simp) ?_; intro v' w8 hown hgrow; obtain ⟨p8, q8, rfl⟩ := own_form hown.out; have HO8 := hid (HA1.out w8 p8 q8 hown.out hgrow.out); clear hown hgrow) | (refine step_app_at (by rfl) (.tmp 89) (.tmp 93) (by rfl) w7.heap.size _ kk (R.take kk) (by rfl) HO8.out.1 (if cr = kk + 1 then some ⟨g, 0, none⟩ else some ⟨g, (kk + 1) * 6, none⟩) AD HAD.out (cr - (kk + 1)) (nr - (kk + 1)) (R.drop (kk + 1)) (by rfl) HL2.out HO8.out.2.2 (by omega) HO8.out.2.1.size ?_; intro v' w9 hown hgrow; obtain ⟨p9, q9, rfl⟩ := own_form hown.out; have HO9 := hid hown.out; have HG9 := hid hgrow.out; clear hown hgrow))
              go_wp2
              go_roundw
              case rel =>
                have hdl : (R.take kk ++ R.drop (kk + 1)).length = kk + (nr - (kk + 1)) := by rw [List.length_append, HL1.out, HL2.out]
                exact ⟨i + 1, kk + (nr - (kk + 1)), q9, p9, _, _, cutAt kk R, by first | rfl | simp, by go_num, by omega, hid hdl, hid (Ox.next CL7.out HO.out.gb BE7.out HO8.out.2.1 HO8.out.1 HG9.out HO9.out hdl HNX.out)⟩
              case measure => simp only [slen]; omega
            · have tv : (v == 0) = false := by simpa using hv0
              have hrx : ¬ rfi 4096 b s x = 0 := by rw [hv]; exact hv0
              have HEB := hid (show eb 4096 b s x = b ∧ es 4096 b s x = s from ⟨by unfold eb; rw [if_neg (by omega)], by unfold es; rw [if_neg (by omega)]⟩)
              clear hv hrx hv0
              go_upto_region 18 with (go_at_call 19; with_reducible refine (CEM.out).mono ?_; rintro e w5 ⟨rfl, CL5, LI5, BE5⟩)
              clear m0 m1 m2 m3 m4 m5
              have O5' := hid (show Ox w2 w5 B2 r T b s R (some ⟨g, 0, none⟩) cr from by
                have hcl := CL5.out
                rw [HEB.out.1, HEB.out.2] at hcl
                exact ⟨hcl, LI5.out, HO.out.gt, HO.out.gb, BE5.out, HO.out.pe⟩)
              have hk : kk < R.length := by rw [HNR.out]; exact hkn
              obtain ⟨g', eg, a0, a1, a2, a3, a4, a5⟩ := O5'.out.li.cells hk
              obtain rfl : g = g' := by injection eg with eg; injection eg
              clear eg
              have hrf := rfi_rest HTK.out O5'.out.pe (List.getElem_mem hk) (by rw [HNT.out]; exact hnt4)
              have CE2 := hid (O5'.out.enter R[kk])
              have HNX := hid (next_perm O5'.out.pe hk hrf)
              rw [hrf] at CE2
              obtain ⟨z, hz⟩ : ∃ z, R[kk] = z := ⟨_, rfl⟩
              rw [hz] at a0 a1 a2 a3 a4 a5 CE2 HNX
              clear hz hrf hk
              go_upto_region 20 with (go_at_call 19; with_reducible refine (CE2.out).mono ?_; rintro e w7 ⟨rfl, CL7, LI7, BE7⟩)
              clear a0 a1 a2 a3 a4 a5
              have kc : (kk : Int) ≤ (cr : Int) := by omega
              have k2 : (kk : Int) + 1 ≤ (nr : Int) := by omega
              have k3 : (0 : Int) ≤ (kk : Int) + 1 := by omega
              have kw : IntKind.i64.wrap ((kk : Int) + 1) = (kk : Int) + 1 := by rw [IntKind.wrap_i64]; omega
              have HOW := hid (show (w7.drew.alloc (.cells #[] 36)).ownsRow w7.heap.size 36 6 (.slice (some ⟨w7.heap.size, 0, none⟩) 0 0) 0 (its []) from made0 (w := w7) w7.drew 36 6 (Nat.le_refl _))
              have HLA := hid (show Li (w7.drew.alloc (.cells #[] 36)) (some ⟨g, 0, none⟩) cr R from LI7.out.on (btr (bdrew1 w7) (ball _ _)))
              have HPC := hid (fun j u (hj : (its (R.take kk))[j]? = some u) => part_cells HLA.out 0 kk (by rw [HNR.out]; omega) j u (by rw [List.drop_zero]; exact hj))
              have HGL := hid (show g < w7.heap.size from by obtain ⟨cu, hcu⟩ := LI7.out.ty (OfP.mk g); exact row_lt hcu)
              obtain ⟨AD, hAD⟩ : ∃ ad : Addr, (if cr = kk + 1 then some ⟨g, 0, none⟩ else some ⟨g, (kk + 1) * 6, none⟩ : Option Addr) = some ad := by
                by_cases hcc : cr = kk + 1
                · exact ⟨_, if_pos hcc⟩
                · exact ⟨_, if_neg hcc⟩
              have HAD := hid hAD
              clear hAD
              have HA1 := hid (show ∀ (w8 : World) (p8 : Option Addr) (q8 : Nat), w8.ownsRow w7.heap.size 36 6 (.slice p8 (0 + kk) q8) (0 + kk) (its ([] ++ R.take kk)) → (w7.drew.alloc (.cells #[] 36)).grownBy w8 (Value.slice (some ⟨w7.heap.size, 0, none⟩) 0 0).ownBlock → w8.ownsRow w7.heap.size 36 6 (.slice p8 kk q8) kk (its (R.take kk)) ∧ Below w7.heap.size w7 w8 ∧ ∀ j u, (its (R.drop (kk + 1)))[j]? = some u → w8.cell? (AD.add j) = some u from fun w8 p8 q8 hown hgrow => by
                have hgl := HGL.out
                have hl8 : Li w8 (some ⟨g, 0, none⟩) cr R := HLA.out.same (fun b hb => by
                  rw [hb.eq]
                  exact hgrow.block g (by simp; omega) (fun e => by have e2 : some g = some w7.heap.size := e; injection e2 with e2; omega))
                refine ⟨by simpa using hown, (btr (bdrew1 w7) (ball _ _)).grown hgrow (by simp) (fun j hj => by cases hj; exact Nat.le_refl _), fun j u hj => ?_⟩
                have had := HAD.out
                by_cases hcc : cr = kk + 1
                · have : R.drop (kk + 1) = [] := List.drop_of_length_le (by rw [HNR.out]; omega)
                  rw [this] at hj
                  simp [its] at hj
                · rw [if_neg hcc] at had
                  injection had with had
                  rw [← had]
                  exact part_cells hl8 (kk + 1) R.length (Nat.le_refl _) j u (by rw [List.take_of_length_le (Nat.le_refl _)]; exact hj))
              have HP1 := hid (show ∀ j u, (its (R.take kk))[j]? = some u → (w7.drew.alloc (.cells #[] 36)).cell? ((⟨g, 0, none⟩ : Addr).add j) = some u from fun j u hj => by have := HPC.out j u hj; rw [Nat.zero_mul] at this; exact this)
              have HL1 := hid (show (R.take kk).length = kk from by rw [List.length_take, HNR.out]; omega)
              have HL2 := hid (show (R.drop (kk + 1)).length = nr - (kk + 1) from by rw [List.length_drop, HNR.out])
              go_region_law (first | (refine step_app_at (by rfl) (.tmp 85) (.tmp 88) (by rfl) w7.heap.size _ 0 [] (by rfl) HOW.out (some ⟨g, 0, none⟩) ⟨g, 0, none⟩ rfl cr kk (R.take kk) (by rfl) HL1.out HP1.out (by omega) (by simp) ?_; intro v' w8 hown hgrow; obtain ⟨p8, q8, rfl⟩ := own_form hown.out; have HO8 := hid (HA1.out w8 p8 q8 hown.out hgrow.out); clear hown hgrow) | (refine step_app_at (by rfl) (.tmp 89) (.tmp 93) (by rfl) w7.heap.size _ kk (R.take kk) (by rfl) HO8.out.1 (if cr = kk + 1 then some ⟨g, 0, none⟩ else some ⟨g, (kk + 1) * 6, none⟩) AD HAD.out (cr - (kk + 1)) (nr - (kk + 1)) (R.drop (kk + 1)) (by rfl) HL2.out HO8.out.2.2 (by omega) HO8.out.2.1.size ?_; intro v' w9 hown hgrow; obtain ⟨p9, q9, rfl⟩ := own_form hown.out; have HO9 := hid hown.out; have HG9 := hid hgrow.out; clear hown hgrow))
              go_wp2
              go_roundw
              case rel =>
                have hdl : (R.take kk ++ R.drop (kk + 1)).length = kk + (nr - (kk + 1)) := by rw [List.length_append, HL1.out, HL2.out]
                exact ⟨i + 1, kk + (nr - (kk + 1)), q9, p9, _, _, cutAt kk R, by first | rfl | simp, by go_num, by omega, hid hdl, hid (Ox.next CL7.out HO.out.gb BE7.out HO8.out.2.1 HO8.out.1 HG9.out HO9.out hdl HNX.out)⟩
              case measure => simp only [slen]; omega
          · have t1 : ((i : Int) == 1) = false := by simp; omega
            have t2 : ¬ (i : Int) = 1 := by omega
            go_upto_region 18 with fail
            have hk : kk < R.length := by rw [HNR.out]; exact hkn
            obtain ⟨g', eg, a0, a1, a2, a3, a4, a5⟩ := HO.out.li.cells hk
            obtain rfl : g = g' := by injection eg with eg; injection eg
            clear eg
            have hrf := rfi_rest HTK.out HO.out.pe (List.getElem_mem hk) (by rw [HNT.out]; exact hnt4)
            have CE2 := hid (HO.out.enter R[kk])
            have HNX := hid (next_perm HO.out.pe hk hrf)
            rw [hrf] at CE2
            obtain ⟨z, hz⟩ : ∃ z, R[kk] = z := ⟨_, rfl⟩
            rw [hz] at a0 a1 a2 a3 a4 a5 CE2 HNX
            clear hz hrf hk
            go_upto_region 20 with (go_at_call 19; with_reducible refine (CE2.out).mono ?_; rintro e w7 ⟨rfl, CL7, LI7, BE7⟩)
            clear a0 a1 a2 a3 a4 a5
            have kc : (kk : Int) ≤ (cr : Int) := by omega
            have k2 : (kk : Int) + 1 ≤ (nr : Int) := by omega
            have k3 : (0 : Int) ≤ (kk : Int) + 1 := by omega
            have kw : IntKind.i64.wrap ((kk : Int) + 1) = (kk : Int) + 1 := by rw [IntKind.wrap_i64]; omega
            have HOW := hid (show (w7.drew.alloc (.cells #[] 36)).ownsRow w7.heap.size 36 6 (.slice (some ⟨w7.heap.size, 0, none⟩) 0 0) 0 (its []) from made0 (w := w7) w7.drew 36 6 (Nat.le_refl _))
            have HLA := hid (show Li (w7.drew.alloc (.cells #[] 36)) (some ⟨g, 0, none⟩) cr R from LI7.out.on (btr (bdrew1 w7) (ball _ _)))
            have HPC := hid (fun j u (hj : (its (R.take kk))[j]? = some u) => part_cells HLA.out 0 kk (by rw [HNR.out]; omega) j u (by rw [List.drop_zero]; exact hj))
            have HGL := hid (show g < w7.heap.size from by obtain ⟨cu, hcu⟩ := LI7.out.ty (OfP.mk g); exact row_lt hcu)
            obtain ⟨AD, hAD⟩ : ∃ ad : Addr, (if cr = kk + 1 then some ⟨g, 0, none⟩ else some ⟨g, (kk + 1) * 6, none⟩ : Option Addr) = some ad := by
              by_cases hcc : cr = kk + 1
              · exact ⟨_, if_pos hcc⟩
              · exact ⟨_, if_neg hcc⟩
            have HAD := hid hAD
            clear hAD
            have HA1 := hid (show ∀ (w8 : World) (p8 : Option Addr) (q8 : Nat), w8.ownsRow w7.heap.size 36 6 (.slice p8 (0 + kk) q8) (0 + kk) (its ([] ++ R.take kk)) → (w7.drew.alloc (.cells #[] 36)).grownBy w8 (Value.slice (some ⟨w7.heap.size, 0, none⟩) 0 0).ownBlock → w8.ownsRow w7.heap.size 36 6 (.slice p8 kk q8) kk (its (R.take kk)) ∧ Below w7.heap.size w7 w8 ∧ ∀ j u, (its (R.drop (kk + 1)))[j]? = some u → w8.cell? (AD.add j) = some u from fun w8 p8 q8 hown hgrow => by
              have hgl := HGL.out
              have hl8 : Li w8 (some ⟨g, 0, none⟩) cr R := HLA.out.same (fun b hb => by
                rw [hb.eq]
                exact hgrow.block g (by simp; omega) (fun e => by have e2 : some g = some w7.heap.size := e; injection e2 with e2; omega))
              refine ⟨by simpa using hown, (btr (bdrew1 w7) (ball _ _)).grown hgrow (by simp) (fun j hj => by cases hj; exact Nat.le_refl _), fun j u hj => ?_⟩
              have had := HAD.out
              by_cases hcc : cr = kk + 1
              · have : R.drop (kk + 1) = [] := List.drop_of_length_le (by rw [HNR.out]; omega)
                rw [this] at hj
                simp [its] at hj
              · rw [if_neg hcc] at had
                injection had with had
                rw [← had]
                exact part_cells hl8 (kk + 1) R.length (Nat.le_refl _) j u (by rw [List.take_of_length_le (Nat.le_refl _)]; exact hj))
            have HP1 := hid (show ∀ j u, (its (R.take kk))[j]? = some u → (w7.drew.alloc (.cells #[] 36)).cell? ((⟨g, 0, none⟩ : Addr).add j) = some u from fun j u hj => by have := HPC.out j u hj; rw [Nat.zero_mul] at this; exact this)
            have HL1 := hid (show (R.take kk).length = kk from by rw [List.length_take, HNR.out]; omega)
            have HL2 := hid (show (R.drop (kk + 1)).length = nr - (kk + 1) from by rw [List.length_drop, HNR.out])
            go_region_law (first | (refine step_app_at (by rfl) (.tmp 85) (.tmp 88) (by rfl) w7.heap.size _ 0 [] (by rfl) HOW.out (some ⟨g, 0, none⟩) ⟨g, 0, none⟩ rfl cr kk (R.take kk) (by rfl) HL1.out HP1.out (by omega) (by simp) ?_; intro v' w8 hown hgrow; obtain ⟨p8, q8, rfl⟩ := own_form hown.out; have HO8 := hid (HA1.out w8 p8 q8 hown.out hgrow.out); clear hown hgrow) | (refine step_app_at (by rfl) (.tmp 89) (.tmp 93) (by rfl) w7.heap.size _ kk (R.take kk) (by rfl) HO8.out.1 (if cr = kk + 1 then some ⟨g, 0, none⟩ else some ⟨g, (kk + 1) * 6, none⟩) AD HAD.out (cr - (kk + 1)) (nr - (kk + 1)) (R.drop (kk + 1)) (by rfl) HL2.out HO8.out.2.2 (by omega) HO8.out.2.1.size ?_; intro v' w9 hown hgrow; obtain ⟨p9, q9, rfl⟩ := own_form hown.out; have HO9 := hid hown.out; have HG9 := hid hgrow.out; clear hown hgrow))
            go_wp2
            go_roundw
            case rel =>
              have hdl : (R.take kk ++ R.drop (kk + 1)).length = kk + (nr - (kk + 1)) := by rw [List.length_append, HL1.out, HL2.out]
              exact ⟨i + 1, kk + (nr - (kk + 1)), q9, p9, _, _, cutAt kk R, by first | rfl | simp, by go_num, by omega, hid hdl, hid (Ox.next CL7.out HO.out.gb BE7.out HO8.out.2.1 HO8.out.1 HG9.out HO9.out hdl HNX.out)⟩
            case measure => simp only [slen]; omega
      · have j1 : ¬ (i : Int) < (np : Int) := by omega
        have hkn : 0 < nr := hnr
        go_upto_region 16 with fail
        by_cases hi1 : i = 1
        · have t1 : ((i : Int) == 1) = true := by simp; omega
          obtain ⟨m0, m1, m2, m3, m4, m5⟩ := row6 (row_on (row_on HMR.out E2.out.ec.be) HO.out.be)
          have CEM := hid (HO.out.enter x)
          obtain ⟨v, hv⟩ : ∃ v, rfi 4096 b s x = v := ⟨_, rfl⟩
          rw [hv] at CEM
          by_cases hv0 : v = 0
          · have hrx : rfi 4096 b s x = 0 := by rw [hv]; exact hv0
            rw [hv0] at CEM
            have CDM := hid (fun (U : World) hcl hli hbe => Ox.drop (w2 := w2) (U := U) (B := B2) (r := r) (T := T) (b := b) (s := s) (R := R) (pr := some ⟨g, 0, none⟩) (cr := cr) x hrx hcl hli hbe HO.out.gt HO.out.gb HO.out.pe)
            have HMV := hid (fun (U : World) (hU : Below w2.heap.size w2 U) => row6 (row_on (row_on HMR.out E2.out.ec.be) hU))
            clear hv hrx hv0
            go_upto_region 17 with (go_at_call 19; with_reducible refine (CEM.out).mono ?_; rintro e w5 ⟨rfl, CL5, LI5, BE5⟩)
            clear m0 m1 m2 m3 m4 m5
            obtain ⟨m0, m1, m2, m3, m4, m5⟩ := HMV.out w5 BE5.out
            go_upto_region 18 with (go_at_call 20; refine (CDM.out _ CL5.out LI5.out BE5.out).mono ?_; rintro e w6 ⟨⟨vv, rfl⟩, O6⟩)
            clear m0 m1 m2 m3 m4 m5
            have hk : 0 < R.length := by rw [HNR.out]; exact hkn
            obtain ⟨g', eg, a0, a1, a2, a3, a4, a5⟩ := O6.out.li.cells hk
            obtain rfl : g = g' := by injection eg with eg; injection eg
            clear eg
            have hrf := rfi_rest HTK.out O6.out.pe (List.getElem_mem hk) (by rw [HNT.out]; exact hnt4)
            have CE2 := hid (O6.out.enter R[0])
            have HNX := hid (next_perm O6.out.pe hk hrf)
            rw [hrf] at CE2
            obtain ⟨z, hz⟩ : ∃ z, R[0] = z := ⟨_, rfl⟩
            rw [hz] at a0 a1 a2 a3 a4 a5 CE2 HNX
            simp only [Nat.zero_mul, Nat.zero_add] at a0 a1 a2 a3 a4 a5
            clear hz hrf hk
            go_upto_region 20 with (go_at_call 19; with_reducible refine (CE2.out).mono ?_; rintro e w7 ⟨rfl, CL7, LI7, BE7⟩)
            clear a0 a1 a2 a3 a4 a5
            have kc : (0 : Int) ≤ (cr : Int) := by omega
            have k2 : (1 : Int) ≤ (nr : Int) := by omega
            have k3 : (0 : Int) ≤ 1 := by omega
            have kw : IntKind.i64.wrap 1 = 1 := by rw [IntKind.wrap_i64]; omega
            have HOW := hid (show (w7.drew.alloc (.cells #[] 36)).ownsRow w7.heap.size 36 6 (.slice (some ⟨w7.heap.size, 0, none⟩) 0 0) 0 (its []) from made0 (w := w7) w7.drew 36 6 (Nat.le_refl _))
            have HLA := hid (show Li (w7.drew.alloc (.cells #[] 36)) (some ⟨g, 0, none⟩) cr R from LI7.out.on (btr (bdrew1 w7) (ball _ _)))
            have HPC := hid (fun j u (hj : (its (R.take 0))[j]? = some u) => part_cells HLA.out 0 0 (by rw [HNR.out]; omega) j u (by rw [List.drop_zero]; exact hj))
            have HGL := hid (show g < w7.heap.size from by obtain ⟨cu, hcu⟩ := LI7.out.ty (OfP.mk g); exact row_lt hcu)
            obtain ⟨AD, hAD⟩ : ∃ ad : Addr, (if cr = 1 then some ⟨g, 0, none⟩ else some ⟨g, 6, none⟩ : Option Addr) = some ad := by
              by_cases hcc : cr = 1
              · exact ⟨_, if_pos hcc⟩
              · exact ⟨_, if_neg hcc⟩
            have HAD := hid hAD
            clear hAD
            have HA1 := hid (show ∀ (w8 : World) (p8 : Option Addr) (q8 : Nat), w8.ownsRow w7.heap.size 36 6 (.slice p8 (0 + 0) q8) (0 + 0) (its ([] ++ R.take 0)) → (w7.drew.alloc (.cells #[] 36)).grownBy w8 (Value.slice (some ⟨w7.heap.size, 0, none⟩) 0 0).ownBlock → w8.ownsRow w7.heap.size 36 6 (.slice p8 0 q8) 0 (its (R.take 0)) ∧ Below w7.heap.size w7 w8 ∧ ∀ j u, (its (R.drop 1))[j]? = some u → w8.cell? (AD.add j) = some u from fun w8 p8 q8 hown hgrow => by
              have hgl := HGL.out
              have hl8 : Li w8 (some ⟨g, 0, none⟩) cr R := HLA.out.same (fun b hb => by
                rw [hb.eq]
                exact hgrow.block g (by simp; omega) (fun e => by have e2 : some g = some w7.heap.size := e; injection e2 with e2; omega))
              refine ⟨by simpa using hown, (btr (bdrew1 w7) (ball _ _)).grown hgrow (by simp) (fun j hj => by cases hj; exact Nat.le_refl _), fun j u hj => ?_⟩
              have had := HAD.out
              by_cases hcc : cr = 1
              · have : R.drop 1 = [] := List.drop_of_length_le (by rw [HNR.out]; omega)
                rw [this] at hj
                simp [its] at hj
              · rw [if_neg hcc] at had
                injection had with had
                rw [← had]
                exact part_cells hl8 1 R.length (Nat.le_refl _) j u (by rw [List.take_of_length_le (Nat.le_refl _)]; exact hj))
            have HP1 := hid (show ∀ j u, (its (R.take 0))[j]? = some u → (w7.drew.alloc (.cells #[] 36)).cell? ((⟨g, 0, none⟩ : Addr).add j) = some u from fun j u hj => by have := HPC.out j u hj; rw [Nat.zero_mul] at this; exact this)
            have HL1 := hid (show (R.take 0).length = 0 from by rw [List.length_take, HNR.out]; omega)
            have HL2 := hid (show (R.drop 1).length = nr - 1 from by rw [List.length_drop, HNR.out])
            go_region_law (first | (refine step_app_at (by rfl) (.tmp 85) (.tmp 88) (by rfl) w7.heap.size _ 0 [] (by rfl) HOW.out (some ⟨g, 0, none⟩) ⟨g, 0, none⟩ rfl cr 0 (R.take 0) (by rfl) HL1.out HP1.out (by omega) (by simp) ?_; intro v' w8 hown hgrow; obtain ⟨p8, q8, rfl⟩ := own_form hown.out; have HO8 := hid (HA1.out w8 p8 q8 hown.out hgrow.out); clear hown hgrow) | (refine step_app_at (by rfl) (.tmp 89) (.tmp 93) (by rfl) w7.heap.size _ 0 (R.take 0) (by rfl) HO8.out.1 (if cr = 1 then some ⟨g, 0, none⟩ else some ⟨g, 6, none⟩) AD HAD.out (cr - 1) (nr - 1) (R.drop 1) (by rfl) HL2.out HO8.out.2.2 (by omega) HO8.out.2.1.size ?_; intro v' w9 hown hgrow; obtain ⟨p9, q9, rfl⟩ := own_form hown.out; have HO9 := hid hown.out; have HG9 := hid hgrow.out; clear hown hgrow))
            go_wp2
            go_roundw
            case rel =>
              have hdl : (R.take 0 ++ R.drop 1).length = 0 + (nr - 1) := by rw [List.length_append, HL1.out, HL2.out]
              exact ⟨i + 1, 0 + (nr - 1), q9, p9, _, _, cutAt 0 R, by first | rfl | simp, by go_num, by omega, hid hdl, hid (Ox.next CL7.out HO.out.gb BE7.out HO8.out.2.1 HO8.out.1 HG9.out HO9.out hdl HNX.out)⟩
            case measure => simp only [slen]; omega
          · have tv : (v == 0) = false := by simpa using hv0
            have hrx : ¬ rfi 4096 b s x = 0 := by rw [hv]; exact hv0
            have HEB := hid (show eb 4096 b s x = b ∧ es 4096 b s x = s from ⟨by unfold eb; rw [if_neg (by omega)], by unfold es; rw [if_neg (by omega)]⟩)
            clear hv hrx hv0
            go_upto_region 18 with (go_at_call 19; with_reducible refine (CEM.out).mono ?_; rintro e w5 ⟨rfl, CL5, LI5, BE5⟩)
            clear m0 m1 m2 m3 m4 m5
            have O5' := hid (show Ox w2 w5 B2 r T b s R (some ⟨g, 0, none⟩) cr from by
              have hcl := CL5.out
              rw [HEB.out.1, HEB.out.2] at hcl
              exact ⟨hcl, LI5.out, HO.out.gt, HO.out.gb, BE5.out, HO.out.pe⟩)
            have hk : 0 < R.length := by rw [HNR.out]; exact hkn
            obtain ⟨g', eg, a0, a1, a2, a3, a4, a5⟩ := O5'.out.li.cells hk
            obtain rfl : g = g' := by injection eg with eg; injection eg
            clear eg
            have hrf := rfi_rest HTK.out O5'.out.pe (List.getElem_mem hk) (by rw [HNT.out]; exact hnt4)
            have CE2 := hid (O5'.out.enter R[0])
            have HNX := hid (next_perm O5'.out.pe hk hrf)
            rw [hrf] at CE2
            obtain ⟨z, hz⟩ : ∃ z, R[0] = z := ⟨_, rfl⟩
            rw [hz] at a0 a1 a2 a3 a4 a5 CE2 HNX
            simp only [Nat.zero_mul, Nat.zero_add] at a0 a1 a2 a3 a4 a5
            clear hz hrf hk
            go_upto_region 20 with (go_at_call 19; with_reducible refine (CE2.out).mono ?_; rintro e w7 ⟨rfl, CL7, LI7, BE7⟩)
            clear a0 a1 a2 a3 a4 a5
            have kc : (0 : Int) ≤ (cr : Int) := by omega
            have k2 : (1 : Int) ≤ (nr : Int) := by omega
            have k3 : (0 : Int) ≤ 1 := by omega
            have kw : IntKind.i64.wrap 1 = 1 := by rw [IntKind.wrap_i64]; omega
            have HOW := hid (show (w7.drew.alloc (.cells #[] 36)).ownsRow w7.heap.size 36 6 (.slice (some ⟨w7.heap.size, 0, none⟩) 0 0) 0 (its []) from made0 (w := w7) w7.drew 36 6 (Nat.le_refl _))
            have HLA := hid (show Li (w7.drew.alloc (.cells #[] 36)) (some ⟨g, 0, none⟩) cr R from LI7.out.on (btr (bdrew1 w7) (ball _ _)))
            have HPC := hid (fun j u (hj : (its (R.take 0))[j]? = some u) => part_cells HLA.out 0 0 (by rw [HNR.out]; omega) j u (by rw [List.drop_zero]; exact hj))
            have HGL := hid (show g < w7.heap.size from by obtain ⟨cu, hcu⟩ := LI7.out.ty (OfP.mk g); exact row_lt hcu)
            obtain ⟨AD, hAD⟩ : ∃ ad : Addr, (if cr = 1 then some ⟨g, 0, none⟩ else some ⟨g, 6, none⟩ : Option Addr) = some ad := by
              by_cases hcc : cr = 1
              · exact ⟨_, if_pos hcc⟩
              · exact ⟨_, if_neg hcc⟩
            have HAD := hid hAD
            clear hAD
            have HA1 := hid (show ∀ (w8 : World) (p8 : Option Addr) (q8 : Nat), w8.ownsRow w7.heap.size 36 6 (.slice p8 (0 + 0) q8) (0 + 0) (its ([] ++ R.take 0)) → (w7.drew.alloc (.cells #[] 36)).grownBy w8 (Value.slice (some ⟨w7.heap.size, 0, none⟩) 0 0).ownBlock → w8.ownsRow w7.heap.size 36 6 (.slice p8 0 q8) 0 (its (R.take 0)) ∧ Below w7.heap.size w7 w8 ∧ ∀ j u, (its (R.drop 1))[j]? = some u → w8.cell? (AD.add j) = some u from fun w8 p8 q8 hown hgrow => by
              have hgl := HGL.out
              have hl8 : Li w8 (some ⟨g, 0, none⟩) cr R := HLA.out.same (fun b hb => by
                rw [hb.eq]
                exact hgrow.block g (by simp; omega) (fun e => by have e2 : some g = some w7.heap.size := e; injection e2 with e2; omega))
              refine ⟨by simpa using hown, (btr (bdrew1 w7) (ball _ _)).grown hgrow (by simp) (fun j hj => by cases hj; exact Nat.le_refl _), fun j u hj => ?_⟩
              have had := HAD.out
              by_cases hcc : cr = 1
              · have : R.drop 1 = [] := List.drop_of_length_le (by rw [HNR.out]; omega)
                rw [this] at hj
                simp [its] at hj
              · rw [if_neg hcc] at had
                injection had with had
                rw [← had]
                exact part_cells hl8 1 R.length (Nat.le_refl _) j u (by rw [List.take_of_length_le (Nat.le_refl _)]; exact hj))
            have HP1 := hid (show ∀ j u, (its (R.take 0))[j]? = some u → (w7.drew.alloc (.cells #[] 36)).cell? ((⟨g, 0, none⟩ : Addr).add j) = some u from fun j u hj => by have := HPC.out j u hj; rw [Nat.zero_mul] at this; exact this)
            have HL1 := hid (show (R.take 0).length = 0 from by rw [List.length_take, HNR.out]; omega)
            have HL2 := hid (show (R.drop 1).length = nr - 1 from by rw [List.length_drop, HNR.out])
            go_region_law (first | (refine step_app_at (by rfl) (.tmp 85) (.tmp 88) (by rfl) w7.heap.size _ 0 [] (by rfl) HOW.out (some ⟨g, 0, none⟩) ⟨g, 0, none⟩ rfl cr 0 (R.take 0) (by rfl) HL1.out HP1.out (by omega) (by simp) ?_; intro v' w8 hown hgrow; obtain ⟨p8, q8, rfl⟩ := own_form hown.out; have HO8 := hid (HA1.out w8 p8 q8 hown.out hgrow.out); clear hown hgrow) | (refine step_app_at (by rfl) (.tmp 89) (.tmp 93) (by rfl) w7.heap.size _ 0 (R.take 0) (by rfl) HO8.out.1 (if cr = 1 then some ⟨g, 0, none⟩ else some ⟨g, 6, none⟩) AD HAD.out (cr - 1) (nr - 1) (R.drop 1) (by rfl) HL2.out HO8.out.2.2 (by omega) HO8.out.2.1.size ?_; intro v' w9 hown hgrow; obtain ⟨p9, q9, rfl⟩ := own_form hown.out; have HO9 := hid hown.out; have HG9 := hid hgrow.out; clear hown hgrow))
            go_wp2
            go_roundw
            case rel =>
              have hdl : (R.take 0 ++ R.drop 1).length = 0 + (nr - 1) := by rw [List.length_append, HL1.out, HL2.out]
              exact ⟨i + 1, 0 + (nr - 1), q9, p9, _, _, cutAt 0 R, by first | rfl | simp, by go_num, by omega, hid hdl, hid (Ox.next CL7.out HO.out.gb BE7.out HO8.out.2.1 HO8.out.1 HG9.out HO9.out hdl HNX.out)⟩
            case measure => simp only [slen]; omega
        · have t1 : ((i : Int) == 1) = false := by simp; omega
          have t2 : ¬ (i : Int) = 1 := by omega
          go_upto_region 18 with fail
          have hk : 0 < R.length := by rw [HNR.out]; exact hkn
          obtain ⟨g', eg, a0, a1, a2, a3, a4, a5⟩ := HO.out.li.cells hk
          obtain rfl : g = g' := by injection eg with eg; injection eg
          clear eg
          have hrf := rfi_rest HTK.out HO.out.pe (List.getElem_mem hk) (by rw [HNT.out]; exact hnt4)
          have CE2 := hid (HO.out.enter R[0])
          have HNX := hid (next_perm HO.out.pe hk hrf)
          rw [hrf] at CE2
          obtain ⟨z, hz⟩ : ∃ z, R[0] = z := ⟨_, rfl⟩
          rw [hz] at a0 a1 a2 a3 a4 a5 CE2 HNX
          simp only [Nat.zero_mul, Nat.zero_add] at a0 a1 a2 a3 a4 a5
          clear hz hrf hk
          go_upto_region 20 with (go_at_call 19; with_reducible refine (CE2.out).mono ?_; rintro e w7 ⟨rfl, CL7, LI7, BE7⟩)
          clear a0 a1 a2 a3 a4 a5
          have kc : (0 : Int) ≤ (cr : Int) := by omega
          have k2 : (1 : Int) ≤ (nr : Int) := by omega
          have k3 : (0 : Int) ≤ 1 := by omega
          have kw : IntKind.i64.wrap 1 = 1 := by rw [IntKind.wrap_i64]; omega
          have HOW := hid (show (w7.drew.alloc (.cells #[] 36)).ownsRow w7.heap.size 36 6 (.slice (some ⟨w7.heap.size, 0, none⟩) 0 0) 0 (its []) from made0 (w := w7) w7.drew 36 6 (Nat.le_refl _))
          have HLA := hid (show Li (w7.drew.alloc (.cells #[] 36)) (some ⟨g, 0, none⟩) cr R from LI7.out.on (btr (bdrew1 w7) (ball _ _)))
          have HPC := hid (fun j u (hj : (its (R.take 0))[j]? = some u) => part_cells HLA.out 0 0 (by rw [HNR.out]; omega) j u (by rw [List.drop_zero]; exact hj))
          have HGL := hid (show g < w7.heap.size from by obtain ⟨cu, hcu⟩ := LI7.out.ty (OfP.mk g); exact row_lt hcu)
          obtain ⟨AD, hAD⟩ : ∃ ad : Addr, (if cr = 1 then some ⟨g, 0, none⟩ else some ⟨g, 6, none⟩ : Option Addr) = some ad := by
            by_cases hcc : cr = 1
            · exact ⟨_, if_pos hcc⟩
            · exact ⟨_, if_neg hcc⟩
          have HAD := hid hAD
          clear hAD
          have HA1 := hid (show ∀ (w8 : World) (p8 : Option Addr) (q8 : Nat), w8.ownsRow w7.heap.size 36 6 (.slice p8 (0 + 0) q8) (0 + 0) (its ([] ++ R.take 0)) → (w7.drew.alloc (.cells #[] 36)).grownBy w8 (Value.slice (some ⟨w7.heap.size, 0, none⟩) 0 0).ownBlock → w8.ownsRow w7.heap.size 36 6 (.slice p8 0 q8) 0 (its (R.take 0)) ∧ Below w7.heap.size w7 w8 ∧ ∀ j u, (its (R.drop 1))[j]? = some u → w8.cell? (AD.add j) = some u from fun w8 p8 q8 hown hgrow => by
            have hgl := HGL.out
            have hl8 : Li w8 (some ⟨g, 0, none⟩) cr R := HLA.out.same (fun b hb => by
              rw [hb.eq]
              exact hgrow.block g (by simp; omega) (fun e => by have e2 : some g = some w7.heap.size := e; injection e2 with e2; omega))
            refine ⟨by simpa using hown, (btr (bdrew1 w7) (ball _ _)).grown hgrow (by simp) (fun j hj => by cases hj; exact Nat.le_refl _), fun j u hj => ?_⟩
            have had := HAD.out
            by_cases hcc : cr = 1
            · have : R.drop 1 = [] := List.drop_of_length_le (by rw [HNR.out]; omega)
              rw [this] at hj
              simp [its] at hj
            · rw [if_neg hcc] at had
              injection had with had
              rw [← had]
              exact part_cells hl8 1 R.length (Nat.le_refl _) j u (by rw [List.take_of_length_le (Nat.le_refl _)]; exact hj))
          have HP1 := hid (show ∀ j u, (its (R.take 0))[j]? = some u → (w7.drew.alloc (.cells #[] 36)).cell? ((⟨g, 0, none⟩ : Addr).add j) = some u from fun j u hj => by have := HPC.out j u hj; rw [Nat.zero_mul] at this; exact this)
          have HL1 := hid (show (R.take 0).length = 0 from by rw [List.length_take, HNR.out]; omega)
          have HL2 := hid (show (R.drop 1).length = nr - 1 from by rw [List.length_drop, HNR.out])
          go_region_law (first | (refine step_app_at (by rfl) (.tmp 85) (.tmp 88) (by rfl) w7.heap.size _ 0 [] (by rfl) HOW.out (some ⟨g, 0, none⟩) ⟨g, 0, none⟩ rfl cr 0 (R.take 0) (by rfl) HL1.out HP1.out (by omega) (by simp) ?_; intro v' w8 hown hgrow; obtain ⟨p8, q8, rfl⟩ := own_form hown.out; have HO8 := hid (HA1.out w8 p8 q8 hown.out hgrow.out); clear hown hgrow) | (refine step_app_at (by rfl) (.tmp 89) (.tmp 93) (by rfl) w7.heap.size _ 0 (R.take 0) (by rfl) HO8.out.1 (if cr = 1 then some ⟨g, 0, none⟩ else some ⟨g, 6, none⟩) AD HAD.out (cr - 1) (nr - 1) (R.drop 1) (by rfl) HL2.out HO8.out.2.2 (by omega) HO8.out.2.1.size ?_; intro v' w9 hown hgrow; obtain ⟨p9, q9, rfl⟩ := own_form hown.out; have HO9 := hid hown.out; have HG9 := hid hgrow.out; clear hown hgrow))
          go_wp2
          go_roundw
          case rel =>
            have hdl : (R.take 0 ++ R.drop 1).length = 0 + (nr - 1) := by rw [List.length_append, HL1.out, HL2.out]
            exact ⟨i + 1, 0 + (nr - 1), q9, p9, _, _, cutAt 0 R, by first | rfl | simp, by go_num, by omega, hid hdl, hid (Ox.next CL7.out HO.out.gb BE7.out HO8.out.2.1 HO8.out.1 HG9.out HO9.out hdl HNX.out)⟩
          case measure => simp only [slen]; omega
    · obtain rfl : nr = 0 := by omega
      obtain rfl : R = [] := List.length_eq_zero_iff.1 HNR.out
      have hpe := HO.out.pe
      rw [List.append_nil] at hpe
      obtain ⟨p1, c1, p2, c2, hcl, _⟩ := HO.out.cl
      have EW := hid (E2.out.on HO.out.be)
      have hsd := E2.out.ec.sides
      have hqq := quo_perm (r := r) hsd.1 hsd.2 hcl.s1 hcl.s2 ((E2.out.pe.symm).trans hpe.symm)
      obtain ⟨zz, hzz⟩ : ∃ z, (quo r xs ys).getD q0 = z := ⟨_, rfl⟩
      obtain ⟨is, his⟩ : ∃ z, (quo r xs ys).isSome = z := ⟨_, rfl⟩
      have CQ := hid (show Calls Try.prog 11 #[.pointer (some ⟨B, 0, none⟩)] wr fun e w' => e = .returned (.tuple #[.agg #[.int .i64 zz.pr, .int .u64 zz.vo, .int .u64 zz.su, .int .i64 zz.sd, .int .i64 zz.ru], .bool is]) ∧ Hid (Below wr.heap.size wr w') from by
        obtain ⟨p1, c1, p2, c2, hc⟩ := EW.out.ec.cl
        rw [← hzz, ← his]
        exact (quote_any B r 4096 p1 c1 xs p2 c2 ys wr hc).mono (fun e w' h => ⟨h.1, hid h.2⟩))
      have CR := hid (show ∀ (U : World), Below wr.heap.size wr U → Calls Try.prog 11 #[.pointer (some ⟨B2, 0, none⟩)] U fun e w' => e = .returned (.tuple #[.agg #[.int .i64 zz.pr, .int .u64 zz.vo, .int .u64 zz.su, .int .i64 zz.sd, .int .i64 zz.ru], .bool is]) ∧ Hid (Below U.heap.size U w') from fun U hU => by
        rw [← hzz, ← his, hqq]
        exact (quote_any B2 r 4096 p1 c1 b p2 c2 s U (hcl.on hU)).mono (fun e w' h => ⟨h.1, hid h.2⟩))
      have hln : (b.length : Int) + s.length = (xs.length : Int) + ys.length := by
        have h1 := hpe.length_eq
        have h2 := E2.out.pe.length_eq
        rw [List.length_append] at h1 h2
        omega
      obtain ⟨nn, hnn⟩ : ∃ n : Int, (xs.length : Int) + ys.length = n := ⟨_, rfl⟩
      have CN1 := hid (show ∀ (U : World), Below wr.heap.size wr U → Calls Try.prog 17 #[.pointer (some ⟨B2, 0, none⟩)] U fun e w' => e = .returned (.int .i64 nn) ∧ Hid (Below U.heap.size U w') from fun U hU => by
        rw [← hnn, ← hln]
        exact (len_any B2 r 4096 p1 c1 b p2 c2 s U (hcl.on hU)).mono (fun e w' h => by obtain ⟨h1, n, rfl⟩ := h; exact ⟨h1, hid (bdrew _ _)⟩))
      have CN2 := hid (show ∀ (U : World), Below wr.heap.size wr U → Calls Try.prog 17 #[.pointer (some ⟨B, 0, none⟩)] U fun e w' => e = .returned (.int .i64 nn) ∧ Hid (Below U.heap.size U w') from fun U hU => by
        obtain ⟨p1, c1, p2, c2, hc⟩ := (EW.out.on hU).ec.cl
        rw [← hnn]
        exact (len_any B r 4096 p1 c1 xs p2 c2 ys U hc).mono (fun e w' h => by obtain ⟨h1, n, rfl⟩ := h; exact ⟨h1, hid (bdrew _ _)⟩))
      have qz := fun U => eqQ zz zz U
      simp only [decide_true] at qz
      have nq : (nn == nn) = true := by simp
      have bq : (is == is) = true := by simp
      clear hzz his hqq hcl hln hnn hsd hpe
      go_upto_region 22 with (go_at_call 11; with_reducible refine (CQ.out).mono ?_; rintro e w6 ⟨rfl, V6⟩)
      obtain ⟨X, hX⟩ : ∃ X, w6.alloc (.cells #[.int .i64 zz.pr, .int .u64 zz.vo, .int .u64 zz.su, .int .i64 zz.sd, .int .i64 zz.ru] 30) = X := ⟨_, rfl⟩
      obtain ⟨α, hα⟩ : ∃ g, w6.heap.size = g := ⟨_, rfl⟩
      have BX := hid (show Below wr.heap.size wr X from by rw [← hX]; exact btr V6.out (ball _ _))
      have HA := hid (show X.heap[α]? = some (.cells #[.int .i64 zz.pr, .int .u64 zz.vo, .int .u64 zz.su, .int .i64 zz.sd, .int .i64 zz.ru] 30 (0, 0)) from by rw [← hX, ← hα]; exact World.alloc_heap_new _ _)
      rw [hX, hα]
      clear hX hα
      go_upto_region 23 with (go_at_call 11; with_reducible refine (CR.out _ BX.out).mono ?_; rintro e w7 ⟨rfl, V7⟩)
      obtain ⟨Y, hY⟩ : ∃ X, w7.alloc (.cells #[.int .i64 zz.pr, .int .u64 zz.vo, .int .u64 zz.su, .int .i64 zz.sd, .int .i64 zz.ru] 30) = X := ⟨_, rfl⟩
      obtain ⟨β, hβ⟩ : ∃ g, w7.heap.size = g := ⟨_, rfl⟩
      have BY := hid (show Below wr.heap.size wr Y from by rw [← hY]; exact btr BX.out (btr V7.out (ball _ _)))
      have HAY := hid (show Y.heap[α]? = some (.cells #[.int .i64 zz.pr, .int .u64 zz.vo, .int .u64 zz.su, .int .i64 zz.sd, .int .i64 zz.ru] 30 (0, 0)) from by rw [← hY]; exact row_on (row_on HA.out V7.out) (ball _ _))
      have HBB := hid (show Y.heap[β]? = some (.cells #[.int .i64 zz.pr, .int .u64 zz.vo, .int .u64 zz.su, .int .i64 zz.sd, .int .i64 zz.ru] 30 (0, 0)) from by rw [← hY, ← hβ]; exact World.alloc_heap_new _ _)
      rw [hY, hβ]
      clear hY hβ
      obtain ⟨x0, x1, x2, x3, x4⟩ := row5 HAY.out
      obtain ⟨y0, y1, y2, y3, y4⟩ := row5 HBB.out
      go_wp2_with (first | (go_at_call 17; with_reducible refine (CN1.out _ BY.out).mono ?_; rintro e w8 ⟨rfl, V8⟩) | (go_at_call 17; with_reducible refine (CN2.out _ (btr BY.out V8.out)).mono ?_; rintro e w9 ⟨rfl, V9⟩))
      go_ret
      exact ⟨by simp, btr HBW.out (btr E2.out.ec.be (btr HO.out.be (btr BY.out (btr V8.out V9.out))))⟩
theorem order_walk (r : Int) (q : Option Addr) (cap : Nat) (l : List It) (q' : Option Addr) (cap' : Nat) (ps : List Int) (x : It) (w : World) (h : Iz w q l) (hm : l.length ≤ maxLen) (hp : Pz w q' ps) (hpm : ps.length ≤ maxLen) : Calls Try.prog 6 #[.int .i64 r, .slice q l.length cap, .slice q' ps.length cap', .agg #[.int .u64 x.id, .int .u32 x.mb, .int .i64 x.sd, .int .i64 x.ty, .int .i64 x.pr, .int .u64 x.qt]] w fun e w' => e = .returned (.bool true) ∧ Below w.heap.size w w' := by
  cases hr : isP r with
  | false => exact order_bad r q l.length cap q' ps.length cap' x w hr
  | true => exact order_ok r q cap l q' cap' ps x w h hm hp hpm hr
end Go.Proofs.Ytknikhoobhgidaa
