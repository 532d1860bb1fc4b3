/-
  What is counted: the law's walk over events.
-/
import Derived.Test.YtalgndgoedlpoaaRuQd
import Derived.Deep.RegionLaw
import Derived.Deep.Cut
namespace Go.Proofs.Ytalgndgoedlpoaa
open Go.RowKit Go.Deep Go.Shelf
set_option linter.unusedVariables false
set_option linter.unusedSimpArgs false
set_option maxHeartbeats 8000000
set_option maxRecDepth 100000
theorem info54all : (Try.prog.info? 54).map (fun i => (i.zero, i.size, i.bytes)) = some (some (.agg #[.int .u64 0, .int .u64 0, .int .u64 0, .int .u64 0, .int .i64 0]), 5, 40) := by kernel_rfl
theorem ct_len : ∀ {es : List Ev} {L L' : List Lf}, Ct L es L' → L.length ≤ L'.length
  | [], L, L', h => by cases h; exact Nat.le_refl _
  | e :: es, L, L', h => by
    rcases h with ⟨h1, h2, h3⟩ | ⟨h1, i, hi, x1, x2, x3, x4, x5, x6, x7, h3⟩ | ⟨h1, i, j, hi, hj, x1, x2, x3, x4, x5, x6, x7, x8, x9, y1, y2, y3, y4, h3⟩ | ⟨h1, h3⟩
    · have := ct_len h3; simp at this; omega
    · have := ct_len h3; simpa using this
    · have := ct_len h3; simpa using this
    · exact ct_len h3
/-- while events are counted: what was, and what is still to come. -/
structure Cs (W : World) (base : Nat) (v0 : Value) (es : List Ev) (L' : List Lf) (wr : World) (i : Nat) (L : List Lf) (v : Value) : Prop where
  lv : Lv wr base v L
  kp : Kp (fun j => v0.ownBlock = some j) W wr
  ct : Ct L (es.drop i) L'
  bl : ∀ j, v.ownBlock = some j → v0.ownBlock = some j ∨ W.heap.size ≤ j
theorem Cs.skip {W : World} {base : Nat} {v0 : Value} {es : List Ev} {L' : List Lf} {wr : World} {i : Nat} {L : List Lf} {v : Value} (h : Cs W base v0 es L' wr i L v) {i' : Nat} (hc : Ct L (es.drop i') L') : Cs W base v0 es L' wr i' L v := ⟨h.lv, h.kp, hc, h.bl⟩
theorem Cs.set {W : World} {base : Nat} {v0 : Value} {es : List Ev} {L' : List Lf} {wr : World} {i i' : Nat} {L : List Lf} {g c : Nat} (h : Cs W base v0 es L' wr i L (.slice (some ⟨g, 0, none⟩) L.length c)) {k j : Nat} {v : Value} {y : Lf} (hk : k < L.length) (hj : j < 5) (hy : lcs y = (lcs L[k]).set j v) :
    Lv (wr.setCell ⟨g, k * 5 + j, none⟩ v) base (.slice (some ⟨g, 0, none⟩) L.length c) (L.set k y) ∧ Kp (fun j => v0.ownBlock = some j) W (wr.setCell ⟨g, k * 5 + j, none⟩ v) := by
  refine ⟨lf_set h.lv hk hj hy, h.kp.trans (Kp.set wr g (k * 5 + j) v) (fun b hb e => ?_)⟩
  subst e
  rcases h.bl b rfl with e | e
  · exact e
  · omega
theorem Cs.ev {W : World} {base : Nat} {v0 : Value} {es : List Ev} {L' : List Lf} {wr : World} {i : Nat} {L L0 : List Lf} {v ve : Value} {m : Nat} {xs : List Value} (h : Cs W base v0 es L' wr i L v) (h0 : Lv W base v0 L0) (he : W.ownsRow 0 58 13 ve m xs) : wr.ownsRow 0 58 13 ve m xs := by
  refine own_same he (fun g hg => ?_)
  obtain ⟨c, e⟩ := own_ty he hg
  refine h.kp.obj g (row_lt e) (fun hc => ?_)
  obtain ⟨c', e'⟩ := own_ty h0 hc
  exact row_ne e e' (by decide) rfl
theorem Cs.app {W : World} {base : Nat} {v0 : Value} {es : List Ev} {L' : List Lf} {wr : World} {i : Nat} {L : List Lf} {v : Value} (h : Cs W base v0 es L' wr i L v) {g cap i' : Nat} {w3 : World} {y : Lf} (hown : w3.ownsRow base 54 5 (.slice (some ⟨g, 0, none⟩) (L.length + 1) cap) (L.length + 1) (lfs L ++ lcs y))
    (hG : ∀ j, j < wr.heap.size → ¬ v.ownBlock = some j → w3.heap[j]? = wr.heap[j]?) (hGo : w3.os = wr.os ∧ w3.tape = wr.tape ∧ w3.output = wr.output ∧ wr.heap.size ≤ w3.heap.size) (hat : v.ownBlock = some g ∨ wr.heap.size ≤ g) (hc : Ct (L ++ [y]) (es.drop i') L') :
    Cs W base v0 es L' w3 i' (L ++ [y]) (.slice (some ⟨g, 0, none⟩) (L.length + 1) cap) := by
  have k3 : Kp (fun j => v.ownBlock = some j) wr w3 := ⟨hGo.1, hGo.2.1, hGo.2.2.1, hGo.2.2.2, hG⟩
  refine ⟨?_, h.kp.trans k3 (fun j hj e => ?_), hc, fun j hj => ?_⟩
  · unfold Lv
    rw [lfs_snoc, List.length_append]
    exact hown
  · rcases h.bl j e with h | h
    · exact h
    · omega
  · obtain rfl : g = j := Option.some.inj hj
    rcases hat with e | e
    · exact h.bl g e
    · exact .inr (Nat.le_trans h.kp.size e)
theorem Cs.on {W : World} {base : Nat} {v0 : Value} {es : List Ev} {L' : List Lf} {wr wr' : World} {i : Nat} {L : List Lf} {v : Value} (h : Cs W base v0 es L' wr i L v) (hb : Below wr.heap.size wr wr') : Cs W base v0 es L' wr' i L v :=
  ⟨own_on h.lv hb, h.kp.trans (Kp.of (fun _ => False) hb) (fun _ _ f => f.elim), h.ct, h.bl⟩
theorem Cs.put {W : World} {base : Nat} {v0 : Value} {es : List Ev} {L' : List Lf} {wr : World} {i i' : Nat} {L : List Lf} {g c : Nat} (h : Cs W base v0 es L' wr i L (.slice (some ⟨g, 0, none⟩) L.length c)) {k j : Nat} {v : Value} {y : Lf} (hk : k < L.length) (hj : j < 5) (hy : lcs y = (lcs L[k]).set j v) (hc : Ct (L.set k y) (es.drop i') L') :
    Cs W base v0 es L' (wr.setCell ⟨g, k * 5 + j, none⟩ v) i' (L.set k y) (.slice (some ⟨g, 0, none⟩) L.length c) :=
  ⟨(h.set (i' := i') hk hj hy).1, (h.set (i' := i') hk hj hy).2, hc, h.bl⟩
theorem Cs.put2 {W : World} {base : Nat} {v0 : Value} {es : List Ev} {L' : List Lf} {wr : World} {i i' : Nat} {L : List Lf} {g c : Nat} (h : Cs W base v0 es L' wr i L (.slice (some ⟨g, 0, none⟩) L.length c)) {k j k2 j2 : Nat} {v v2 : Value} {y y2 : Lf} (hk : k < L.length) (hj : j < 5) (hy : lcs y = (lcs L[k]).set j v) (hk2 : k2 < L.length) (hj2 : j2 < 5) (hy2 : lcs y2 = (lcs L[k2]).set j2 v2) (ne : k ≠ k2) (hc : Ct ((L.set k y).set k2 y2) (es.drop i') L') :
    Cs W base v0 es L' ((wr.setCell ⟨g, k * 5 + j, none⟩ v).setCell ⟨g, k2 * 5 + j2, none⟩ v2) i' ((L.set k y).set k2 y2) (.slice (some ⟨g, 0, none⟩) L.length c) := by
  obtain ⟨l1, kp1⟩ := h.set (i' := i') hk hj hy
  have l1' : Lv (wr.setCell ⟨g, k * 5 + j, none⟩ v) base (.slice (some ⟨g, 0, none⟩) (L.set k y).length c) (L.set k y) := by rw [List.length_set]; exact l1
  have l2 := lf_set (i := k2) (j := j2) (v := v2) (y := y2) l1' (by rw [List.length_set]; exact hk2) hj2 (by rw [List.getElem_set_ne ne]; exact hy2)
  rw [List.length_set] at l2
  refine ⟨l2, kp1.trans (Kp.set _ g (k2 * 5 + j2) v2) (fun b hb e => ?_), hc, h.bl⟩
  subst e
  rcases h.bl b rfl with e | e
  · exact e
  · omega
theorem setne {w : World} {n g o k : Nat} {v u : Value} (h : w.cell? ⟨g, k, none⟩ = some u) (ne : k ≠ o) : ((w.drewN n).setCell ⟨g, o, none⟩ v).cell? ⟨g, k, none⟩ = some u := by
  rw [← h]
  exact (World.cell?_setCell_other (w.drewN n) ⟨g, o, none⟩ ⟨g, k, none⟩ v (by intro e; injection e with _ e; exact ne e.symm)).trans rfl
theorem counted_any (p : Option Addr) (c base : Nat) (L0 L' : List Lf) (q : Option Addr) (cq : Nat) (es : List Ev) (W : World)
    (hL : Lv W base (.slice p L0.length c) L0) (hE : W.ownsRow 0 58 13 (.slice q es.length cq) es.length (evs es)) (hct : Ct L0 es L') (hb : base ≤ W.heap.size) (hn : L'.length ≤ 3000000000000) :
    Calls Try.prog 14 #[.slice p L0.length c, .slice q es.length cq] W fun e w' => ∃ p' c', e = .returned (.tuple #[.slice p' L'.length c', .bool true]) ∧ Lv w' base (.slice p' L'.length c') L' ∧ Kp (fun j => (Value.slice p L0.length c).ownBlock = some j) W w' := by
  obtain ⟨m, hm⟩ : ∃ m, es.length = m := ⟨_, rfl⟩
  have hmx : m < 9223372036854775808 := by
    cases es with
    | nil => rw [← hm]; simp
    | cons x l => obtain ⟨_, _, _, h, _⟩ := ev_cells hE (i := 0) (by simp); rw [hm] at h; unfold maxLen at h; omega
  have HM := hid hm
  have HL := hid hL
  have HE := hid hE
  have HB := hid hb
  have HN := hid hn
  have H0 := hid (show Cs W base (.slice p L0.length c) es L' W 0 L0 (.slice p L0.length c) from ⟨hL, Kp.refl _ _, hct, fun j h => .inl h⟩)
  obtain ⟨i0, hi0, hz0, hz1, hz2⟩ := info_parts info54all
  have HI := hid hi0
  have HZ0 := hid hz0
  have HZ1 := hid hz1
  have HZ2 := hid hz2
  rw [hm]
  clear hm hL hE hb hn hct hi0 hz0 hz1 hz2
  go_enter Try.func14, Try.ntmps14
  go_wp2_with fail
  go_loopw [0, 6] (fun sv iv wr => ∃ (i : Nat) (L1 : List Lf) (p1 : Option Addr) (c1 : Nat), i ≤ m ∧ iv = .int .i64 i ∧ sv = .slice p1 L1.length c1 ∧ Hid (Cs W base (.slice p L0.length c) es L' wr i L1 (.slice p1 L1.length c1))) (fun _ iv _ => m - (intOf iv).toNat)
  case atStart => exact ⟨0, L0, p, c, Nat.zero_le _, rfl, rfl, H0⟩
  case round =>
    obtain ⟨i, L1, p1, c1, him, rfl, rfl, HC⟩ := hrel
    by_cases hlt : i < m
    · have hie : i < es.length := by rw [HM.out]; exact hlt
      obtain ⟨g, cc, hp, _, ⟨ecur, hecur⟩, hcc⟩ := ev_cells (HC.out.ev HL.out HE.out) hie
      have hp' := (Value.slice.inj hp).1
      subst hp'
      obtain ⟨e, he⟩ : ∃ e, es[i] = e := ⟨_, rfl⟩
      rw [he] at hcc
      have hct := HC.out.ct
      rw [List.drop_eq_getElem_cons hie, he] at hct
      have HEC := hid hecur
      have r1 := hcc 1 (by omega)
      have r2 := hcc 2 (by omega)
      have r3 := hcc 3 (by omega)
      have r7 := hcc 7 (by omega)
      have r9 := hcc 9 (by omega)
      simp only [ecs, List.getElem?_cons_succ, List.getElem?_cons_zero] at r1 r2 r3 r7 r9
      have i0' : (0 : Int) ≤ (i : Int) := by omega
      have i1 : (i : Int) < (m : Int) := by omega
      clear hcc hp he hecur
      rcases hct with ⟨kd, hf, hct⟩ | ⟨kd, a, ha, hf, hq0, t0, t1, t2, t3, t4, hct⟩ | ⟨kd, a, b, ha, hb, hf, hf2, hab, hq0, t0, t1, t2, t3, t4, u1, u2, u3, u4, hct⟩ | ⟨kd, hct⟩
      · have CF := hid (find_lf p1 c1 base L1 e.id wr HC.out.lv)
        rw [hf] at CF
        rw [kd] at r1
        have HCT := hid hct
        have hlen := ct_len hct
        have hln := HN.out
        rw [List.length_append, List.length_singleton] at hlen
        have hl1 : L1.length + 1 ≤ 3000000000000 := by omega
        have hbw : base ≤ wr.heap.size := Nat.le_trans HB.out HC.out.kp.size
        clear hct kd hf hlen hln
        go_upto_region 8 with (go_at_call 38; with_reducible refine (CF.out).mono ?_; rintro e' w1 ⟨rfl, rfl⟩)
        clear CF
        have HOX := hid (fun (X : World) (hX : Below w1.heap.size w1 X) => (show X.ownsRow base 54 5 (.slice p1 L1.length c1) L1.length (lfs L1) from own_on HC.out.lv hX))
        have HNW := hid (fun (X : World) (hX : X.heap[w1.heap.size]? = some (.cells (lcs ⟨e.id, e.qt, 0, 0, e.ty⟩).toArray 54 (0, 0))) => fun j u (hj : (lcs ⟨e.id, e.qt, 0, 0, e.ty⟩)[j]? = some u) => (show X.cell? ((⟨w1.heap.size, 0, none⟩ : Addr).add j) = some u from by
          rw [Addr.add_lit, Nat.zero_add, row_cell hX]; simpa using hj))
        go_region_law (refine step_append_lies _ (by rfl) (.tmp 31) (.tmp 48) 46 (by rfl) base 54 i0 _ 5 40 Try.underlying46 HI.out HZ0.out HZ1.out HZ2.out rfl (by decide) _ L1.length (lfs L1) (by rfl) (HOX.out _ (by first | exact btr (bdrew1 _) (ball _ _) | exact btr (ball _ _) (bdrew1 _))) ⟨w1.heap.size, 0, none⟩ 1 1 (lcs ⟨e.id, e.qt, 0, 0, e.ty⟩) (by rfl) rfl (HNW.out _ (by first | exact World.alloc_heap_new w1 _ | exact World.alloc_heap_new w1.drew _)) (lcs_one _) (by decide) (by unfold maxLen; omega) (by omega) (by simp; omega) (w1.heap.size + 1) (by simp) ?_; intro g2 cap2 w3 hown hgrow hat hlt2; have hG := hid (fun j (hj : j < w1.heap.size) (hne : ¬ (Value.slice p1 L1.length c1).ownBlock = some j) => (hgrow.block j (by simp; omega) (fun e => hne e.symm)).trans ((show Below w1.heap.size w1 _ from (by first | exact btr (bdrew1 _) (ball _ _) | exact btr (ball _ _) (bdrew1 _))).block j hj)); have hGo := hid (And.intro hgrow.os (And.intro hgrow.tape (And.intro hgrow.output (show w1.heap.size ≤ w3.heap.size from Nat.le_trans (by simp) hgrow.size)))); have HOW := hid hown; have HAT := hid (show (Value.slice p1 L1.length c1).ownBlock = some g2 ∨ w1.heap.size ≤ g2 from by rcases hat with h | h; exact .inl h; exact .inr (by omega)); clear hown hgrow hat)
        all_goals (
          go_wp2
          go_roundw
          case rel => exact ⟨i + 1, L1 ++ [⟨e.id, e.qt, 0, 0, e.ty⟩], some ⟨g2, 0, none⟩, cap2, by omega, by go_num, by rw [List.length_append]; rfl, hid (by rw [List.length_append]; exact HC.out.app HOW.out hG.out hGo.out HAT.out HCT.out)⟩
          case measure => simp [intOf]; omega)
      · have CF := hid (find_lf p1 c1 base L1 e.id wr HC.out.lv)
        rw [hf] at CF
        rw [kd] at r1
        have HCT := hid hct
        obtain ⟨lg, lcc, hlp, hlm, ⟨lcur, hlcur⟩, hlc⟩ := lf_cells HC.out.lv ha
        have hlp' := (Value.slice.inj hlp).1
        subst hlp'
        obtain ⟨y, hy⟩ : ∃ y, L1[a] = y := ⟨_, rfl⟩
        rw [hy] at hlc t0 t1 t3 t4
        have HY := hid hy
        have k1 := hlc 1 (by omega)
        have k2 := hlc 2 (by omega)
        have k3 := hlc 3 (by omega)
        simp only [lcs, List.getElem?_cons_succ, List.getElem?_cons_zero] at k1 k2 k3
        have fz := row_frz hlcur (a * 5 + 3)
        have hlm' : L1.length < 9223372036854775808 := by unfold maxLen at hlm; omega
        have a0' : (0 : Int) ≤ (a : Int) := by omega
        have a1 : (a : Int) < (L1.length : Int) := by omega
        have an : decide ((a : Int) < 0) = false := by simp
        have hq1 : (e.qt == 0) = false := by simpa using hq0
        have w1' : IntKind.u64.wrap (y.tr + y.ca) = y.tr + y.ca := by rw [IntKind.wrap_u64]; omega
        have w2' : IntKind.u64.wrap (y.tr + y.ca + e.qt) = y.tr + y.ca + e.qt := by rw [IntKind.wrap_u64]; omega
        have w3' : IntKind.u64.wrap (y.ca + e.qt) = y.ca + e.qt := by rw [IntKind.wrap_u64]; omega
        have gt' : decide (y.qy < y.tr + y.ca + e.qt) = false := by simp; omega
        have HA := hid ha
        clear hct kd hf hlp hlm hlc hlcur hy t0 t1 t2 t3 t4 hq0 lcc
        go_upto_region 12 with (go_at_call 38; with_reducible refine (CF.out).mono ?_; rintro e' w1 ⟨rfl, rfl⟩)
        clear CF
        go_quiet (fail)
        go_upto_region 15 with fail
        go_region
        go_wp2
        go_roundw
        case rel => exact ⟨i + 1, L1.set a { L1[a] with ca := (L1[a]).ca + e.qt }, some ⟨lg, 0, none⟩, c1, by omega, by go_num, by rw [List.length_set], hid (by rw [List.length_set]; exact (HC.out.on (bdrew _ _)).put HA.out (by omega) (by rw [← HY.out]; rfl) HCT.out)⟩
        case measure => simp [intOf]; omega
      · have CF := hid (find_lf p1 c1 base L1 e.id wr HC.out.lv)
        have CG := hid (fun U (hU : Below wr.heap.size wr U) => find_lf p1 c1 base L1 e.ot U (own_on HC.out.lv hU))
        rw [hf] at CF
        rw [hf2] at CG
        rw [kd] at r1
        have HCT := hid hct
        obtain ⟨lg, lcc, hlp, hlm, ⟨lcur, hlcur⟩, hlc⟩ := lf_cells HC.out.lv ha
        have hlp' := (Value.slice.inj hlp).1
        subst hlp'
        obtain ⟨lg2, lcc2, hlp2, _, _, hld⟩ := lf_cells HC.out.lv hb
        have hlp2' := (Value.slice.inj hlp2).1
        injection hlp2' with hlp2'
        injection hlp2' with hlp2' _ _
        subst hlp2'
        obtain ⟨y, hy⟩ : ∃ y, L1[a] = y := ⟨_, rfl⟩
        obtain ⟨z, hz⟩ : ∃ z, L1[b] = z := ⟨_, rfl⟩
        rw [hy] at hlc t1 t2 t3 t4
        rw [hz] at hld u1 u2 u3 u4
        have HY := hid hy
        have HZ := hid hz
        have k1 := hlc 1 (by omega)
        have k2 := hlc 2 (by omega)
        have k3 := hlc 3 (by omega)
        have m1 := hld 1 (by omega)
        have m2 := hld 2 (by omega)
        have m3 := hld 3 (by omega)
        simp only [lcs, List.getElem?_cons_succ, List.getElem?_cons_zero] at k1 k2 k3 m1 m2 m3
        have fz := row_frz hlcur (a * 5 + 2)
        have fy := row_frz hlcur (b * 5 + 2)
        have hlm' : L1.length < 9223372036854775808 := by unfold maxLen at hlm; omega
        have a0' : (0 : Int) ≤ (a : Int) := by omega
        have a1 : (a : Int) < (L1.length : Int) := by omega
        have an : decide ((a : Int) < 0) = false := by simp
        have b0' : (0 : Int) ≤ (b : Int) := by omega
        have b1 : (b : Int) < (L1.length : Int) := by omega
        have bn : decide ((b : Int) < 0) = false := by simp
        have abi : (a : Int) ≠ (b : Int) := by omega
        have ab' : ((a : Int) == (b : Int)) = false := by simpa using abi
        have hq1 : (e.qt == 0) = false := by simpa using hq0
        have w1' : IntKind.u64.wrap (y.tr + y.ca) = y.tr + y.ca := by rw [IntKind.wrap_u64]; omega
        have w2' : IntKind.u64.wrap (y.tr + y.ca + e.qt) = y.tr + y.ca + e.qt := by rw [IntKind.wrap_u64]; omega
        have w3' : IntKind.u64.wrap (y.tr + e.qt) = y.tr + e.qt := by rw [IntKind.wrap_u64]; omega
        have x1' : IntKind.u64.wrap (z.tr + z.ca) = z.tr + z.ca := by rw [IntKind.wrap_u64]; omega
        have x2' : IntKind.u64.wrap (z.tr + z.ca + e.qt) = z.tr + z.ca + e.qt := by rw [IntKind.wrap_u64]; omega
        have x3' : IntKind.u64.wrap (z.tr + e.qt) = z.tr + e.qt := by rw [IntKind.wrap_u64]; omega
        have gt' : decide (y.qy < y.tr + y.ca + e.qt) = false := by simp; omega
        have gu' : decide (z.qy < z.tr + z.ca + e.qt) = false := by simp; omega
        have n2 := fun n => setne (n := n) (o := a * 5 + 2) (v := .int .u64 (y.tr + e.qt)) m2 (show b * 5 + 2 ≠ a * 5 + 2 by omega)
        have HA := hid ha
        have HB2 := hid hb
        have HAB := hid hab
        clear hct kd hf hf2 hlp hlp2 hlm hlc hld hlcur hy hz t0 t1 t2 t3 t4 u1 u2 u3 u4 hq0 hab abi lcc lcc2
        go_upto_region 12 with (go_at_call 38; with_reducible refine (CF.out).mono ?_; rintro e' w1 ⟨rfl, rfl⟩)
        clear CF
        go_quiet (fail)
        go_upto_region 17 with (go_at_call 38; with_reducible refine (CG.out _ (bdrew _ _)).mono ?_; rintro e' w2 ⟨rfl, rfl⟩)
        go_quiet (fail)
        go_upto_region 19 with fail
        go_region
        go_wp2
        go_roundw
        case rel => exact ⟨i + 1, (L1.set a { L1[a] with tr := (L1[a]).tr + e.qt }).set b { L1[b] with tr := (L1[b]).tr + e.qt }, some ⟨lg, 0, none⟩, c1, by omega, by go_num, by rw [List.length_set, List.length_set], hid (by rw [List.length_set, List.length_set]; exact (HC.out.on (bdrew _ _)).put2 HA.out (by omega) (by rw [← HY.out]; rfl) HB2.out (by omega) (by rw [← HZ.out]; rfl) HAB.out HCT.out)⟩
        case measure => simp [intOf]; omega
      · rcases kd with kd | kd <;> rw [kd] at r1 <;> (
          go_wp2
          go_roundw
          case rel => exact ⟨i + 1, L1, p1, c1, by omega, by go_num, rfl, hid (HC.out.skip hct)⟩
          case measure => simp [intOf]; omega)
    · obtain rfl : i = m := by omega
      have hct := HC.out.ct
      rw [List.drop_of_length_le (by rw [HM.out]; exact Nat.le_refl _)] at hct
      have hct' : L' = L1 := hct
      subst hct'
      go_wp2
      go_ret2
      exact ⟨_, _, rfl, HC.out.lv, HC.out.kp⟩
end Go.Proofs.Ytalgndgoedlpoaa
