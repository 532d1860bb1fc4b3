/-
  AccountsDouble: the walk.
-/
import Derived.Test.YtphhllppgelceaaGj
namespace Go.Proofs.Ytphhllppgelceaa.Ac
open List renaming getElem?_toArray → lqA, getElem?_cons_succ → lqB, getElem?_cons_zero → lqC
open List renaming getElem_toArray → lgA, getElem_cons_succ → lgB, getElem_cons_zero → lgC, setIfInBounds_toArray → lsA, set_cons_zero → lsB, set_cons_succ → lsC
open Go.RowKit Go.Deep Go.Maps Go.Proofs.Ytphhllppgelceaa.MonM
set_option linter.unusedVariables false
set_option linter.unusedSimpArgs false
set_option maxHeartbeats 8000000
set_option maxRecDepth 100000
attribute [local go_sem ↓] Go.wp_at_zero Go.wp_at_succ
/-- entries that may be read. -/
def Ez (w : World) (q : Option Addr) (l : List En) : Prop := ∀ i (h : i < l.length), ∃ b off, q = some ⟨b, off, none⟩ ∧ ∀ U, Below w.heap.size w U → U.cell? ⟨b, off + i * 6, none⟩ = some (.int .u32 l[i].fm) ∧ U.cell? ⟨b, off + i * 6 + 1, none⟩ = some (.int .i64 l[i].fk) ∧ U.cell? ⟨b, off + i * 6 + 2, none⟩ = some (.int .u32 l[i].tm) ∧ U.cell? ⟨b, off + i * 6 + 3, none⟩ = some (.int .i64 l[i].tk) ∧ U.cell? ⟨b, off + i * 6 + 4, none⟩ = some (.int .u64 (hiW l[i].am)) ∧ U.cell? ⟨b, off + i * 6 + 5, none⟩ = some (.int .u64 (loW l[i].am))
theorem ez_own {base : Nat} {w : World} {q : Option Addr} {n c : Nat} {l : List En} (hn : l.length = n) (h : w.ownsRow base 43 6 (.slice q n c) n (enc l)) : Ez w q l := by
  intro i hi
  obtain ⟨h1, ⟨e', e2⟩ | ⟨g, c', cur, e', r1, r2, r3, r4, r5, r6⟩⟩ := id h
  · omega
  · obtain ⟨rfl, _, rfl⟩ := Value.slice.inj e'
    refine ⟨g, 0, rfl, fun U hU => ?_⟩
    have hc := (own_cells (own_on h hU)).2
    obtain ⟨g0, g1, g2, g3, g4, g5⟩ := enc_get hi
    have key : ∀ j u, (enc l)[j]? = some u → U.cell? ⟨g, j, none⟩ = some u := fun j u hj => by have := hc j u hj; rw [Addr.add_lit, Nat.zero_add] at this; exact this
    simp only [Nat.zero_add]
    exact ⟨key _ _ g0, key _ _ g1, key _ _ g2, key _ _ g3, key _ _ g4, key _ _ g5⟩
/-- accounts that may be read. -/
def Az (w : World) (q : Option Addr) (l : List (Int × Int)) : Prop := ∀ i (h : i < l.length), ∃ b off, q = some ⟨b, off, none⟩ ∧ b < w.heap.size ∧ (∃ cur, w.heap[b]? = some (.cells cur 36 (0, 0))) ∧ w.cell? ⟨b, off + i * 2, none⟩ = some (.int .u32 l[i].1) ∧ w.cell? ⟨b, off + i * 2 + 1, none⟩ = some (.int .i64 l[i].2)
theorem az_own {base : Nat} {w : World} {q : Option Addr} {n c : Nat} {l : List (Int × Int)} (hn : l.length = n) (h : w.ownsRow base 36 2 (.slice q n c) n (acv l)) : Az w q l := by
  intro i hi
  obtain ⟨h1, ⟨e', e2⟩ | ⟨g, c', cur, e', r1, r2, r3, r4, r5, r6⟩⟩ := id h
  · omega
  · obtain ⟨rfl, _, rfl⟩ := Value.slice.inj e'
    have hc := (own_cells h).2
    obtain ⟨g0, g1⟩ := acv_get hi
    have key : ∀ j u, (acv l)[j]? = some u → w.cell? ⟨g, j, none⟩ = some u := fun j u hj => by have := hc j u hj; rw [Addr.add_lit, Nat.zero_add] at this; exact this
    refine ⟨g, 0, rfl, row_lt r2, ⟨cur, r2⟩, ?_, ?_⟩
    · rw [Nat.zero_add]; exact key _ _ g0
    · rw [Nat.zero_add]; exact key _ _ g1
theorem sgn_pos {v : Int} (h : 0 < v) : sgn v = 1 := by unfold sgn; rw [if_neg (by omega), if_pos h]
theorem cmp3_self (v : Int) : cmp3 v v = 0 := by unfold cmp3; rw [if_neg (by omega), if_neg (by omega)]
theorem bal_take {es : List En} {k : Nat} (hk : k < es.length) (x : Int × Int) : bal (es.take (k + 1)) x = bal (es.take k) x + brg es[k] x := by
  rw [List.take_add_one, List.getElem?_eq_getElem hk]
  exact bal_snoc _ _ _
theorem tota_le {s : Ls} {es : List En} (he : ∀ e ∈ es, EnOk s e) (hl : es.length ≤ 33554432) {l : List (Int × Int)} {i : Nat} : -(l.length * (33554432 * 9223372036854775808) : Int) ≤ tota (l.take i) (bal es) ∧ tota (l.take i) (bal es) ≤ l.length * (33554432 * 9223372036854775808) := by
  have key : ∀ l : List (Int × Int), -(l.length * (33554432 * 9223372036854775808) : Int) ≤ tota l (bal es) ∧ tota l (bal es) ≤ l.length * (33554432 * 9223372036854775808) := by
    intro l
    induction l with
    | nil => simp [tota]
    | cons x l ih =>
      have h1 := bal_le es x he
      rw [tota_cons, List.length_cons]
      omega
  have h1 := key (l.take i)
  have h2 : (l.take i).length ≤ l.length := by rw [List.length_take]; omega
  omega
theorem alls_snoc (ms : List Int) (m : Int) : alls (ms ++ [m]) = alls ms ++ [(m, 1)] := by simp [alls]
theorem double_ok (ma ta bb : Int) (q1 : Option Addr) (c1 : Nat) (us : List Int) (q2 : Option Addr) (c2 : Nat) (cs : List Int) (q3 : Option Addr) (c3 : Nat) (l : List De) (w : World) (h0 : 0 ≤ ma) (h1 : 0 ≤ ta) (h2 : 0 < bb) (h3 : ma ≤ bb) (h4 : ta ≤ bb) (h5 : bb < 4294967296) (hu : Uz w q1 us) (hus : ∀ x ∈ us, U32 x) (hc : Vz w q2 cs) (hcs : ∀ x ∈ cs, -9223372036854775808 ≤ x ∧ x < 9223372036854775808) (hd : Dz w q3 l) (hdl : ∀ x ∈ l, DeOk x) (n1 : us.length ≤ 1048576) (n2 : cs.length ≤ 1048576) (n3 : l.length ≤ 1048576) :
    Calls Try.prog 3 #[.agg #[.int .u32 ma, .int .u32 ta, .int .u32 bb], .slice q1 us.length c1, .slice q2 cs.length c2, .slice q3 l.length c3] w fun e w' => e = .returned (.bool true) ∧ Below w.heap.size w w' := by
  obtain ⟨Wa, hWa⟩ : ∃ W, w.alloc (.cells #[.int .u32 ma, .int .u32 ta, .int .u32 bb] 24) = W := ⟨_, rfl⟩
  have HBA := hid (show Below w.heap.size w Wa from by rw [← hWa]; exact ball _ _)
  have HRA := hid (show Wa.heap[w.heap.size]? = some (.cells #[.int .u32 ma, .int .u32 ta, .int .u32 bb] 24 (0, 0)) from by rw [← hWa]; exact World.alloc_heap_new _ _)
  have C := hid (show ∀ U, Below w.heap.size w U → Calls Try.prog 7 #[.agg #[.int .u32 ma, .int .u32 ta, .int .u32 bb], .slice q1 us.length c1] U fun e w' => ∃ G, e = .returned (.pointer (some ⟨G, 0, none⟩)) ∧ Nd w w' G us.length from fun U hU => (opened_g ma ta bb q1 c1 us U h0 h1 h2 h3 h4 h5 (fun i hi => by
    obtain ⟨b, off, e, hb, hc⟩ := hu i hi
    exact ⟨b, off, e, Nat.lt_of_lt_of_le hb hU.size, by rw [hU.cell (p := ⟨b, off + i, none⟩) hb]; exact hc⟩) hus n1).mono (fun e w' hh => by
    obtain ⟨G, s, he, hn, hw⟩ := hh
    obtain ⟨O, a1, a2, a3⟩ := hn
    exact ⟨G, he, s, ⟨O, a1, btr hU a2, fun b hb => Nat.le_trans hU.size (a3 b hb)⟩, hw.db⟩))
  have CD := hid (show ∀ U G, Nd w U G us.length → Calls Try.prog 8 #[.pointer (some ⟨G, 0, none⟩), .slice q1 us.length c1, .slice q2 cs.length c2, .slice q3 l.length c3] U fun e w' => e = .returned (.tuple #[]) ∧ Nd w w' G (us.length + 3 * 1048576 + 16 * 1048576) from fun U G hU => done_any hU q1 c1 us q2 c2 cs q3 c3 l hu hus hc hcs hd hdl n1 n1 n2 n3)
  have CL := hid lives_ok
  have HWa := hid hWa
  have HK1 := hid n1
  obtain ⟨K, hK⟩ : ∃ n, us.length = n := ⟨_, rfl⟩
  rw [hK] at C CD HK1 ⊢
  obtain ⟨nc, hnc⟩ : ∃ n, cs.length = n := ⟨_, rfl⟩
  obtain ⟨nl, hnl⟩ : ∃ n, l.length = n := ⟨_, rfl⟩
  rw [hnc, hnl] at CD ⊢
  clear hWa h0 h1 h2 h3 h4 h5 hu hus hc hcs hd hdl n1 n2 n3 hK hnc hnl
  have pq := ptr_nil
  go_enter Try.func3, Try.ntmps3
  go_upto_region 1 with fail
  rw [HWa.out]
  go_upto_region 7 with (first | (go_at_call 6; with_reducible refine (CL.out _).mono ?_; rintro e w1 ⟨rfl, hb⟩; have HB1 := hid (btr HBA.out hb); have HR1 := hid (row_on HRA.out hb); have c0 := row_cell HR1.out 0; have c1 := row_cell HR1.out 1; have c2 := row_cell HR1.out 2; simp only [lqA, lqB, lqC] at c0 c1 c2; clear hb) | (go_at_call 7; with_reducible refine (C.out _ HB1.out).mono ?_; rintro e w2 ⟨G, rfl, hg⟩; have HG := hid hg; clear hg) | (go_at_call 8; with_reducible refine (CD.out _ _ HG.out).mono ?_; rintro e w3 ⟨rfl, hg⟩; have HG3 := hid hg; clear hg))
  clear C CD CL HWa HRA HR1 HG
  try clear c0 c1 c2
  obtain ⟨s, hn3, hdb⟩ := HG3.out
  have NL3 := hid hn3
  have HDB := hid hdb
  clear hn3 hdb HG3
  have CMb := hid (show Calls Try.prog 9 #[.pointer (some ⟨G, 0, none⟩)] w3 fun e w' => ∃ l q d, e = .returned (.slice q (l : List Int).length d) ∧ Mb s l ∧ Uz w' q l ∧ l.length ≤ K + 3 * 1048576 + 16 * 1048576 ∧ Below w3.heap.size w3 w' from by obtain ⟨O, h1, _, _⟩ := NL3.out; exact members_any h1 (by have := HK1.out; omega))
  go_upto_region 8 with (go_at_call 9; with_reducible refine CMb.out.mono ?_; rintro e X0 ⟨ms, qm, dm, rfl, z1, z2, z3, z4⟩; have HMB := hid z1; have HUZ0 := hid z2; have HML := hid z3; have NX0 := hid (NL3.out.on z4); clear z1 z2 z3 z4)
  clear CMb NL3
  have CEn := hid (show Calls Try.prog 10 #[.pointer (some ⟨G, 0, none⟩)] X0 fun e w' => ∃ p' c', e = .returned (.slice p' s.es.length c') ∧ w'.ownsRow X0.heap.size 43 6 (.slice p' s.es.length c') s.es.length (enc s.es) ∧ Below X0.heap.size X0 w' from by obtain ⟨O, h1, _, _⟩ := NX0.out; exact entries_full h1 (by have := HK1.out; omega))
  go_upto_region 9 with (go_at_call 10; with_reducible refine CEn.out.mono ?_; rintro e X ⟨pe, ce, rfl, z1, z2⟩; have HZ1 := hid z1; have HZ2 := hid z2; clear z1 z2)
  have HEZ := hid (ez_own rfl HZ1.out)
  have HUZ := hid (show Uz X qm ms from fun i hi => by obtain ⟨b, off, e, hb, hc⟩ := HUZ0.out i hi; exact ⟨b, off, e, Nat.lt_of_lt_of_le hb HZ2.out.size, by rw [HZ2.out.cell (p := ⟨b, off + i, none⟩) hb]; exact hc⟩)
  have NX := hid (NX0.out.on HZ2.out)
  clear CEn NX0 HUZ0 HZ1 HZ2
  have HLE := hid (show s.es.length ≤ K + 3 * 1048576 + 16 * 1048576 from by obtain ⟨O, ⟨B9, P9, p9, c9, hx⟩, _, _⟩ := NX.out; exact hx.len)
  obtain ⟨nm, hnm⟩ : ∃ n, ms.length = n := ⟨_, rfl⟩
  obtain ⟨ne, hne⟩ : ∃ n, s.es.length = n := ⟨_, rfl⟩
  have HNM := hid hnm
  have HNE := hid hne
  rw [hnm] at HML ⊢
  rw [hne] at HLE ⊢
  have bm : nm ≤ 33554432 := by have := HML.out; have := HK1.out; omega
  have be : ne ≤ 33554432 := by have := HLE.out; have := HK1.out; omega
  clear hnm hne
  obtain ⟨X1, hX1⟩ : ∃ Y, X.alloc (.cells #[.int .u32 0, .int .i64 2, .int .u32 0, .int .i64 3] 36) = Y := ⟨_, rfl⟩
  have BX1 := hid (show Below X.heap.size X X1 from by rw [← hX1]; exact ball _ _)
  have OA0 := hid (show X1.ownsRow X.heap.size 36 2 (.slice (some ⟨X.heap.size, 0, none⟩) 2 2) 2 (acv (alls [])) from ⟨rfl, .inr ⟨X.heap.size, 2, #[.int .u32 0, .int .i64 2, .int .u32 0, .int .i64 3], rfl, Nat.le_refl _, by rw [← hX1]; exact World.alloc_heap_new _ _, Nat.le_refl _, by decide, rfl, rfl⟩⟩)
  have HX1 := hid hX1
  clear hX1
  go_upto_region 11 with fail
  rw [HX1.out]
  clear HX1
  go_loopw [12, 13] (fun av iv wr => ∃ i pa na ca, i ≤ nm ∧ iv = .int .i64 (i : Nat) ∧ av = .slice pa na ca ∧ na = i + 2 ∧ Hid (wr.ownsRow X.heap.size 36 2 (.slice pa na ca) na (acv (alls (ms.take i)))) ∧ Hid (Below X.heap.size X wr)) (fun _ iv _ => nm - (intOf iv).toNat)
  case atStart => exact ⟨0, _, 2, 2, by omega, rfl, rfl, rfl, OA0, BX1⟩
  case round =>
    obtain ⟨i, pa, na, ca, hin, rfl, rfl, hna, HOA, HBK⟩ := hrel
    clear OA0
    by_cases hlt : i < nm
    · have hi2 : i < ms.length := by rw [HNM.out]; exact hlt
      obtain ⟨b, off, eq, hcl⟩ := HUZ.out.at2 hi2
      subst eq
      obtain ⟨m, hm⟩ : ∃ x, ms[i] = x := ⟨_, rfl⟩
      rw [hm] at hcl
      have a0 := hcl wr HBK.out
      have HTK := hid (show alls (ms.take (i + 1)) = alls (ms.take i) ++ [(m, 1)] from by rw [List.take_add_one, List.getElem?_eq_getElem hi2, hm]; exact alls_snoc _ _)
      clear hm hcl
      have i0 : (0 : Int) ≤ (i : Int) := by omega
      have i1 : (i : Int) < (nm : Int) := by omega
      obtain ⟨Y, hY⟩ : ∃ Y, wr.alloc (.cells #[.int .u32 m, .int .i64 1] 36) = Y := ⟨_, rfl⟩
      have BY := hid (show Below wr.heap.size wr Y from by rw [← hY]; exact ball _ _)
      have GY := hid (show Y.heap[wr.heap.size]? = some (.cells #[.int .u32 m, .int .i64 1] 36 (0, 0)) from by rw [← hY]; exact World.alloc_heap_new _ _)
      have HOY := hid (own_on HOA.out BY.out)
      have HY := hid hY
      clear hY
      have bna : na ≤ 33554434 := by omega
      go_wp2_with (rw [HY.out]; at_builtin; refine wpList_app_rd (by rfl) (.tmp 62) (.tmp 68) 37 36 _ 2 16 (by rfl) Try.underlying37 infoA2 rfl (by decide) X.heap.size _ na (acv (alls (ms.take i))) (by rfl) HOY.out (some ⟨wr.heap.size, 0, none⟩) 1 1 [.int .u32 m, .int .i64 1] (by rfl) (fun e => by cases e) rfl (fun ad e j u hj => by injection e with e; subst e; rw [Addr.add_lit, Nat.zero_add, row_cell GY.out]; simpa using hj) (fun u hu => by simp at hu; rcases hu with rfl | rfl <;> rfl) (by unfold maxLen; omega) (by omega) (by have h1 := HBK.out.size; have h2 := BY.out.size; omega) ?_; intro v' w' hown hgrow; obtain ⟨q4, d4, rfl⟩ := own_form hown; have HO1 := hid hown; have HG1 := hid hgrow; clear hown hgrow)
      go_roundw
      case rel =>
        have k1 : Kp (fun j => X.heap.size ≤ j) Y w' := ⟨HG1.out.os, HG1.out.tape, HG1.out.output, HG1.out.size, fun j hj hne => HG1.out.block j hj (fun e => hne (own_lo HOY.out e.symm).1)⟩
        exact ⟨i + 1, q4, na + 1, d4, by omega, by go_num, by rw [hna], by omega, hid (by rw [HTK.out, acv_snoc]; exact HO1.out), hid ((btr HBK.out BY.out).trans (k1.below (btr HBK.out BY.out).size (fun j hj e => by omega)))⟩
      case measure => simp [intOf]; omega
    · have ei : i = nm := by omega
      have HAZ := hid (az_own (l := alls ms) (n := na) (by unfold alls; simp; rw [HNM.out]; omega) (by have := HOA.out; rw [List.take_of_length_le (by rw [HNM.out]; omega)] at this; exact this))
      have HNA := hid (show (alls ms).length = na from by unfold alls; simp; rw [HNM.out]; omega)
      have bna : na ≤ 33554434 := by omega
      obtain ⟨V1, hV1⟩ : ∃ V, V = wr := ⟨_, rfl⟩
      subst hV1
      clear HOA hna
      subst ei
      have CZ0 := hid (show ∀ U, Calls Try.prog 11 #[.int .i64 0] U fun e w' => e = .returned (.agg #[.int .u64 (hiW 0), .int .u64 (loW 0)]) ∧ Below U.heap.size U w' from fun U => cents_any 0 U (by decide) (by decide))
      go_upto_region 15 with (first | (go_at_call 11; with_reducible refine (CZ0.out _).mono ?_; rintro e u1 ⟨rfl, hb⟩; have HBU := hid hb; have HZ1 := hid (World.alloc_heap_new u1 (.cells #[.int .u64 0, .int .u64 0] 40)); clear hb) | (refine wpList_store_row (by rfl) 40 (.tmp 14) (.tmp 70) (by rfl) u1.heap.size #[.int .u64 (hiW 0), .int .u64 (loW 0)] (by rfl) (by rfl) 40 _ HZ1.out infoM (by rfl) (by simp [Value.oneCell']) ?_))
      obtain ⟨Y, hY⟩ : ∃ X, (u1.alloc (.cells #[.int .u64 0, .int .u64 0] 40)).setRow u1.heap.size #[.int .u64 (hiW 0), .int .u64 (loW 0)] = X := ⟨_, rfl⟩
      have GT0 := hid (show Y.heap[u1.heap.size]? = some (.cells #[.int .u64 (hiW 0), .int .u64 (loW 0)] 40 (0, 0)) from by rw [← hY]; exact setRow_heap _ _ _ _ 40 (0, 0) HZ1.out)
      have BUY := hid (show Below u1.heap.size u1 Y from by rw [← hY]; exact setRow_below (ball _ _) (Nat.le_refl _))
      rw [hY]
      obtain ⟨t14, ht⟩ : ∃ t, u1.heap.size = t := ⟨_, rfl⟩
      rw [ht] at GT0 ⊢
      have LT := hid (show X.heap.size ≤ t14 from by have h1 := HBK.out.size; have h2 := HBU.out.size; omega)
      have LV := hid (show V1.heap.size ≤ t14 from by have h2 := HBU.out.size; omega)
      have BVY := hid (btr HBU.out BUY.out)
      clear hY HZ1 ht BUY HBU
      -- all worlds behind here: only t14 of what was there may change
      have OKX := hid (show ∀ U, Kp (fun j => j = t14) Y U → Below X.heap.size X U from fun U hU => (btr HBK.out BVY.out).trans (hU.below (btr HBK.out BVY.out).size (fun j hj e => by have := LT.out; omega)))
      have OKV := hid (show ∀ U, Kp (fun j => j = t14) Y U → Below V1.heap.size V1 U from fun U hU => BVY.out.trans (hU.below BVY.out.size (fun j hj e => by have := LV.out; omega)))
      go_upto_region 16 with fail
      go_loopw [15] (fun iv wr => ∃ i, i ≤ na ∧ iv = .int .i64 (i : Nat) ∧ Hid (Kp (fun j => j = t14) Y wr) ∧ Hid (wr.heap[t14]? = some (.cells #[.int .u64 (hiW (tota ((alls ms).take i) (bal s.es))), .int .u64 (loW (tota ((alls ms).take i) (bal s.es)))] 40 (0, 0)))) (fun iv _ => na - (intOf iv).toNat)
      case atStart => exact ⟨0, by omega, rfl, Kp.refl _ _, GT0⟩
      case round =>
        obtain ⟨i, hia, rfl, HKY, HGT⟩ := hrel
        clear GT0
        by_cases hlt : i < na
        · have hi2 : i < (alls ms).length := by rw [HNA.out]; exact hlt
          obtain ⟨ba, oa, eqa, hba, _, z0, z1⟩ := HAZ.out i hi2
          subst eqa
          obtain ⟨x, hx⟩ : ∃ x, (alls ms)[i] = x := ⟨_, rfl⟩
          rw [hx] at z0 z1
          have HXM := hid (show x ∈ alls ms from by rw [← hx]; exact List.getElem_mem hi2)
          have HA0 := hid (show ∀ U, Kp (fun j => j = t14) Y U → U.cell? ⟨ba, oa + i * 2, none⟩ = some (.int .u32 x.1) from fun U hU => by rw [(OKV.out U hU).cell (p := ⟨ba, oa + i * 2, none⟩) hba]; exact z0)
          have HA1 := hid (show ∀ U, Kp (fun j => j = t14) Y U → U.cell? ⟨ba, oa + i * 2 + 1, none⟩ = some (.int .i64 x.2) from fun U hU => by rw [(OKV.out U hU).cell (p := ⟨ba, oa + i * 2 + 1, none⟩) hba]; exact z1)
          have HTT := hid (show tota ((alls ms).take (i + 1)) (bal s.es) = tota ((alls ms).take i) (bal s.es) + bal s.es x from by rw [List.take_add_one, List.getElem?_eq_getElem hi2, hx]; exact tota_snoc _ _ _)
          clear z0 z1 hx hba
          obtain ⟨x0, x1⟩ := x
          dsimp only at HA0 HA1
          have i0 : (0 : Int) ≤ (i : Int) := by omega
          have i1 : (i : Int) < (na : Int) := by omega
          have HIA := hid hlt
          go_upto_region 19 with (first | (go_at_call 11; with_reducible refine (CZ0.out _).mono ?_; rintro e u2 ⟨rfl, hb⟩; have HBU := hid hb; have HZ1 := hid (World.alloc_heap_new u2 (.cells #[.int .u64 0, .int .u64 0] 40)); clear hb) | (refine wpList_store_row (by rfl) 40 (.tmp 16) (.tmp 77) (by rfl) u2.heap.size #[.int .u64 (hiW 0), .int .u64 (loW 0)] (by rfl) (by rfl) 40 _ HZ1.out infoM (by rfl) (by simp [Value.oneCell']) ?_))
          obtain ⟨Z, hZ⟩ : ∃ X, (u2.alloc (.cells #[.int .u64 0, .int .u64 0] 40)).setRow u2.heap.size #[.int .u64 (hiW 0), .int .u64 (loW 0)] = X := ⟨_, rfl⟩
          have GM0 := hid (show Z.heap[u2.heap.size]? = some (.cells #[.int .u64 (hiW 0), .int .u64 (loW 0)] 40 (0, 0)) from by rw [← hZ]; exact setRow_heap _ _ _ _ 40 (0, 0) HZ1.out)
          have BUZ := hid (btr HBU.out (show Below u2.heap.size u2 Z from by rw [← hZ]; exact setRow_below (ball _ _) (Nat.le_refl _)))
          rw [hZ]
          obtain ⟨tm, ht⟩ : ∃ t, u2.heap.size = t := ⟨_, rfl⟩
          rw [ht] at GM0 ⊢
          have LM := hid (show wr.heap.size ≤ tm from by have h2 := HBU.out.size; omega)
          clear hZ HZ1 ht HBU
          have KYZ := hid (HKY.out.trans (Kp.of (fun j => j = t14) BUZ.out) (fun _ _ h => h))
          have GTZ := hid (row_on HGT.out BUZ.out)
          have NTM := hid (show t14 ≠ tm from by have h1 := row_lt HGT.out; have h2 := LM.out; omega)
          have LY := hid (show Y.heap.size ≤ tm from Nat.le_trans HKY.out.size LM.out)
          have OKY := hid (show ∀ U, Kp (fun j => j = tm) Z U → Kp (fun j => j = t14) Y U from fun U hU => KYZ.out.trans hU (fun g hg e => absurd e (fun e => by have := LY.out; omega)))
          obtain ⟨wr0, hwr0⟩ : ∃ V, V = wr := ⟨_, rfl⟩
          clear hwr0
          go_upto_region 20 with fail
          go_loopw [17] (fun kv wr => ∃ k, k ≤ ne ∧ kv = .int .i64 (k : Nat) ∧ Hid (Kp (fun j => j = tm) Z wr) ∧ Hid (wr.heap[tm]? = some (.cells #[.int .u64 (hiW (bal (s.es.take k) (x0, x1))), .int .u64 (loW (bal (s.es.take k) (x0, x1)))] 40 (0, 0)))) (fun kv _ => ne - (intOf kv).toNat)
          case atStart => exact ⟨0, by omega, rfl, Kp.refl _ _, GM0⟩
          case round =>
            obtain ⟨k, hkn, rfl, HKZ, HGM⟩ := hrel
            by_cases hlk : k < ne
            · have hk2 : k < s.es.length := by rw [HNE.out]; exact hlk
              obtain ⟨b6, o6, eq6, hcl⟩ := HEZ.out k hk2
              subst eq6
              have hen := HDB.out.en _ (List.getElem_mem hk2)
              have htk := bal_take hk2 (x0, x1)
              have hbl := bal_le (s.es.take k) (x0, x1) (fun e he => HDB.out.en e (List.mem_of_mem_take he))
              obtain ⟨y, hy⟩ : ∃ y, s.es[k] = y := ⟨_, rfl⟩
              rw [hy] at hcl hen htk
              obtain ⟨fm, fk, tm9, tk9, am⟩ := y
              dsimp only at hcl
              have HEN := hid hen
              have HCL := hid (show ∀ U, Kp (fun j => j = tm) Z U → _ from fun U hU => hcl U (OKX.out U (OKY.out U hU)))
              have hA : Amt am := by have h1 := hen.pos; have h2 := hen.le; dsimp only at h1 h2; unfold Amt; omega
              have htl : (s.es.take k).length ≤ 33554432 := by rw [List.length_take, HNE.out]; omega
              obtain ⟨mk, hmk⟩ : ∃ x, bal (s.es.take k) (x0, x1) = x := ⟨_, rfl⟩
              rw [hmk] at htk hbl HGM
              have HTK := hid htk
              have ham1 : 0 < am := hen.pos
              have ham2 : am ≤ 9223372036854775808 := hen.le
              have hmA : Amt mk := by unfold Amt; omega
              have CS1 := hid (show ∀ U, Calls Try.prog 12 #[mv mk, mv am] U fun e w' => e = .returned (mv (mk + am)) ∧ Hid (Below U.heap.size U w') from fun U => by have h9 := sum_any mk am U hmA hA; rw [maddV_eq (by omega) (by omega)] at h9; exact h9)
              have CN1 := hid (show ∀ U, Calls Try.prog 13 #[mv am] U fun e w' => e = .returned (mv (-am)) ∧ Hid (Below U.heap.size U w') from fun U => neg_any am U)
              have CS2 := hid (show ∀ U, Calls Try.prog 12 #[mv (mk + am), mv (-am)] U fun e w' => e = .returned (mv (mk + am + -am)) ∧ Hid (Below U.heap.size U w') from fun U => by have h9 := sum_any (mk + am) (-am) U (by unfold Amt; omega) (by unfold Amt; omega); rw [maddV_eq (by omega) (by omega)] at h9; exact h9)
              have CS3 := hid (show ∀ U, Calls Try.prog 12 #[mv mk, mv (-am)] U fun e w' => e = .returned (mv (mk + -am)) ∧ Hid (Below U.heap.size U w') from fun U => by have h9 := sum_any mk (-am) U hmA (by unfold Amt; omega); rw [maddV_eq (by omega) (by omega)] at h9; exact h9)
              unfold mv at CS1 CS2 CS3 CN1
              clear hcl hen htk hbl hy hmk hA hmA htl ham1 ham2
              have k0 : (0 : Int) ≤ (k : Int) := by omega
              have k1 : (k : Int) < (ne : Int) := by omega
              have HKL := hid hlk
              have heq1 := fun U => eql_any tm9 tk9 x0 x1 U
              have heq2 := fun U => eql_any fm fk x0 x1 U
              have E0 := hid (show ∀ U, Kp (fun j => j = tm) Z U → U.cell? ⟨b6, o6 + k * 6, none⟩ = some (.int .u32 fm) from fun U hU => (HCL.out U hU).1)
              have E1 := hid (show ∀ U, Kp (fun j => j = tm) Z U → U.cell? ⟨b6, o6 + k * 6 + 1, none⟩ = some (.int .i64 fk) from fun U hU => (HCL.out U hU).2.1)
              have E2 := hid (show ∀ U, Kp (fun j => j = tm) Z U → U.cell? ⟨b6, o6 + k * 6 + 2, none⟩ = some (.int .u32 tm9) from fun U hU => (HCL.out U hU).2.2.1)
              have E3 := hid (show ∀ U, Kp (fun j => j = tm) Z U → U.cell? ⟨b6, o6 + k * 6 + 3, none⟩ = some (.int .i64 tk9) from fun U hU => (HCL.out U hU).2.2.2.1)
              have E4 := hid (show ∀ U, Kp (fun j => j = tm) Z U → U.cell? ⟨b6, o6 + k * 6 + 4, none⟩ = some (.int .u64 (hiW am)) from fun U hU => (HCL.out U hU).2.2.2.2.1)
              have E5 := hid (show ∀ U, Kp (fun j => j = tm) Z U → U.cell? ⟨b6, o6 + k * 6 + 5, none⟩ = some (.int .u64 (loW am)) from fun U hU => (HCL.out U hU).2.2.2.2.2)
              have A0 := hid (show ∀ U, Kp (fun j => j = tm) Z U → U.cell? ⟨ba, oa + i * 2, none⟩ = some (.int .u32 x0) from fun U hU => HA0.out U (OKY.out U hU))
              have A1 := hid (show ∀ U, Kp (fun j => j = tm) Z U → U.cell? ⟨ba, oa + i * 2 + 1, none⟩ = some (.int .i64 x1) from fun U hU => HA1.out U (OKY.out U hU))
              clear HCL
              by_cases hc1 : tm9 = x0 ∧ tk9 = x1
              · have e1 : decide (tm9 = x0 ∧ tk9 = x1) = true := decide_eq_true hc1
                have HC1 := hid hc1
                clear hc1
                go_upto_region 22 with fail
                obtain ⟨V1, hV1⟩ : ∃ U, wr.drew = U := ⟨_, rfl⟩
                have DV1 := hid (show Below wr.heap.size wr V1 from by rw [← hV1]; exact bdrew1 _)
                have OV1 := hid (HKZ.out.trans (Kp.of (fun j => j = tm) DV1.out) (fun _ _ h => h))
                refine wp_region_held_drew (S := fun U => U.cell? ⟨b6, o6 + k * 6 + 2, none⟩ = some (.int .u32 tm9) ∧ U.cell? ⟨b6, o6 + k * 6 + 3, none⟩ = some (.int .i64 tk9) ∧ U.cell? ⟨ba, oa + i * 2, none⟩ = some (.int .u32 x0) ∧ U.cell? ⟨ba, oa + i * 2 + 1, none⟩ = some (.int .i64 x1)) (by kernel_rfl) ?_ (fun hHeld => ?_)
                · (try dsimp only); rw [hV1]; exact ⟨E2.out _ OV1.out, E3.out _ OV1.out, A0.out _ OV1.out, A1.out _ OV1.out⟩
                rw [hV1] at hHeld ⊢
                clear hV1
                refine' wpAnyH_take (i := 0) rfl (by kernel_rfl) (by kernel_rfl) (by kernel_rfl) (fun _ _ _ h => h) (Or.inl ⟨by kernel_rfl, ?_⟩) (by assumption) ?_
                rotate_left
                · (intro w hSw; (try dsimp only at hSw); go_simp; try (with_reducible rfl))
                try simp only [lgA, lgB, lgC, Act.put, lsA, lsB, lsC]
                refine' wpAnyH_take (i := 1) rfl (by kernel_rfl) (by kernel_rfl) (by kernel_rfl) (fun _ _ _ h => h) (Or.inl ⟨by kernel_rfl, ?_⟩) (by assumption) ?_
                rotate_left
                · (intro w hSw; (try dsimp only at hSw); go_simp; try (with_reducible rfl))
                try simp only [lgA, lgB, lgC, Act.put, lsA, lsB, lsC]
                refine' wpAnyH_take (i := 2) rfl (by kernel_rfl) (by kernel_rfl) (by kernel_rfl) (fun _ _ _ h => h) (Or.inl ⟨by kernel_rfl, ?_⟩) (by assumption) ?_
                rotate_left
                · (intro w hSw; (try dsimp only at hSw); go_simp; try (with_reducible rfl))
                try simp only [lgA, lgB, lgC, Act.put, lsA, lsB, lsC]
                refine' wpAnyH_take (i := 3) rfl (by kernel_rfl) (by kernel_rfl) (by kernel_rfl) (fun _ _ _ h => h) (Or.inl ⟨by kernel_rfl, ?_⟩) (by assumption) ?_
                rotate_left
                · (intro w hSw; (try dsimp only at hSw); go_simp; try (with_reducible rfl))
                try simp only [lgA, lgB, lgC, Act.put, lsA, lsB, lsC]
                refine' wpAnyH_take (i := 4) rfl (by kernel_rfl) (by kernel_rfl) (by kernel_rfl) (fun _ _ _ h => h) (Or.inl ⟨by kernel_rfl, ?_⟩) (by assumption) ?_
                rotate_left
                · (intro w hSw; (try dsimp only at hSw); go_simp; try (with_reducible rfl))
                try simp only [lgA, lgB, lgC, Act.put, lsA, lsB, lsC]
                refine' wpAnyH_take (i := 5) rfl (by kernel_rfl) (by kernel_rfl) (by kernel_rfl) (fun _ _ _ h => h) (Or.inl ⟨by kernel_rfl, ?_⟩) (by assumption) ?_
                rotate_left
                · (intro w hSw; (try dsimp only at hSw); go_simp; try (with_reducible rfl))
                try simp only [lgA, lgB, lgC, Act.put, lsA, lsB, lsC]
                refine' wpAnyH_take (i := 6) rfl (by kernel_rfl) (by kernel_rfl) (by kernel_rfl) (fun _ _ _ h => h) (Or.inl ⟨by kernel_rfl, ?_⟩) (by assumption) ?_
                rotate_left
                · (intro w hSw; (try dsimp only at hSw); go_simp; try (with_reducible rfl))
                try simp only [lgA, lgB, lgC, Act.put, lsA, lsB, lsC]
                refine' wpAnyH_take (i := 7) rfl (by kernel_rfl) (by kernel_rfl) (by kernel_rfl) (fun _ _ _ h => h) (Or.inl ⟨by kernel_rfl, ?_⟩) (by assumption) ?_
                rotate_left
                · (intro w hSw; (try dsimp only at hSw); go_simp; try (with_reducible rfl))
                try simp only [lgA, lgB, lgC, Act.put, lsA, lsB, lsC]
                refine' wpAnyH_take (i := 8) rfl (by kernel_rfl) (by kernel_rfl) (by kernel_rfl) (fun _ _ _ h => h) (Or.inl ⟨by kernel_rfl, ?_⟩) (by assumption) ?_
                rotate_left
                · (intro w hSw; (try dsimp only at hSw); go_simp; try (with_reducible rfl))
                try simp only [lgA, lgB, lgC, Act.put, lsA, lsB, lsC]
                refine' wpAnyH_take (i := 9) rfl (by kernel_rfl) (by kernel_rfl) (by kernel_rfl) (fun _ _ _ h => h) (Or.inl ⟨by kernel_rfl, ?_⟩) (by assumption) ?_
                rotate_left
                · (intro w hSw; (try dsimp only at hSw); go_simp; try (with_reducible rfl))
                try simp only [lgA, lgB, lgC, Act.put, lsA, lsB, lsC]
                refine wpAnyH_done (by kernel_rfl) ?_ _
                have GR1 := hid (row_on HGM.out DV1.out)
                go_upto_region 23 with fail
                obtain ⟨V2, hV2⟩ : ∃ U, V1.drew = U := ⟨_, rfl⟩
                have DV2 := hid (show Below V1.heap.size V1 V2 from by rw [← hV2]; exact bdrew1 _)
                have OV2 := hid (OV1.out.trans (Kp.of (fun j => j = tm) DV2.out) (fun _ _ h => h))
                have GV2 := hid (row_on GR1.out DV2.out)
                refine wp_region_held_drew (S := fun U => U.cell? ⟨b6, o6 + k * 6 + 4, none⟩ = some (.int .u64 (hiW am)) ∧ U.cell? ⟨b6, o6 + k * 6 + 5, none⟩ = some (.int .u64 (loW am))) (by kernel_rfl) ?_ (fun hHeld => ?_)
                · (try dsimp only); rw [hV2]; exact ⟨E4.out _ OV2.out, E5.out _ OV2.out⟩
                rw [hV2] at hHeld ⊢
                clear hV2
                refine' wpAnyH_take (i := 1) rfl (by kernel_rfl) (by kernel_rfl) (by kernel_rfl) (fun _ _ _ h => h) (Or.inl ⟨by kernel_rfl, ?_⟩) (by assumption) ?_
                rotate_left
                · (intro w hSw; (try dsimp only at hSw); go_simp; try (with_reducible rfl))
                try simp only [lgA, lgB, lgC, Act.put, lsA, lsB, lsC]
                refine' wpAnyH_take (i := 2) rfl (by kernel_rfl) (by kernel_rfl) (by kernel_rfl) (fun _ _ _ h => h) (Or.inl ⟨by kernel_rfl, ?_⟩) (by assumption) ?_
                rotate_left
                · (intro w hSw; (try dsimp only at hSw); go_simp; try (with_reducible rfl))
                try simp only [lgA, lgB, lgC, Act.put, lsA, lsB, lsC]
                refine' wpAnyH_take (i := 3) rfl (by kernel_rfl) (by kernel_rfl) (by kernel_rfl) (fun _ _ _ h => h) (Or.inl ⟨by kernel_rfl, ?_⟩) (by assumption) ?_
                rotate_left
                · (intro w hSw; (try dsimp only at hSw); go_simp; try (with_reducible rfl))
                try simp only [lgA, lgB, lgC, Act.put, lsA, lsB, lsC]
                refine' wpAnyH_take (i := 4) rfl (by kernel_rfl) (by kernel_rfl) (by kernel_rfl) (fun _ _ _ h => h) (Or.inl ⟨by kernel_rfl, ?_⟩) (by assumption) ?_
                rotate_left
                · (intro w hSw; (try dsimp only at hSw); go_simp; try (with_reducible rfl))
                try simp only [lgA, lgB, lgC, Act.put, lsA, lsB, lsC]
                refine' wpAnyH_take (i := 5) rfl (by kernel_rfl) (by kernel_rfl) (by kernel_rfl) (fun _ _ _ h => h) (Or.inl ⟨by kernel_rfl, ?_⟩) (by assumption) ?_
                rotate_left
                · (intro w hSw; (try dsimp only at hSw); go_simp; try (with_reducible rfl))
                try simp only [lgA, lgB, lgC, Act.put, lsA, lsB, lsC]
                refine wpAnyH_ready (rs := [0]) (by kernel_rfl) (by simp) ?_
                refine (AllReadyH.cons rfl (fun K hK => ?_) AllReadyH.nil)
                have l0 := row_cell GV2.out 0
                have l1 := row_cell GV2.out 1
                simp only [lqA, lqB, lqC] at l0 l1
                go_simp
                clear l0 l1
                refine hK.out _ _ ?_ (fun hHeld => ?_)
                · (try dsimp only); exact ⟨E4.out _ OV2.out, E5.out _ OV2.out⟩
                clear hK K
                try simp only [lgA, lgB, lgC, Act.put, lsA, lsB, lsC]
                refine wpAnyH_ready (rs := [6]) (by kernel_rfl) (by simp) ?_
                refine (AllReadyH.cons rfl (fun K hK => ?_) AllReadyH.nil)
                go_simp
                go_at_call 12
                with_reducible refine (CS1.out V2).mono ?_
                rintro e X3 ⟨rfl, DbX3⟩
                have OX3 := hid (OV2.out.trans (Kp.of (fun j => j = tm) DbX3.out) (fun _ _ h => h))
                have GX3 := hid (row_on GV2.out DbX3.out)
                (try go_wp2_with fail)
                refine hK.out _ _ ?_ (fun hHeld => ?_)
                · (try dsimp only); exact ⟨E4.out _ OX3.out, E5.out _ OX3.out⟩
                clear hK K
                try simp only [lgA, lgB, lgC, Act.put, lsA, lsB, lsC]
                refine wpAnyH_ready (rs := [7]) (by kernel_rfl) (by simp) ?_
                refine (AllReadyH.cons rfl (fun K hK => ?_) AllReadyH.nil)
                refine step_store_row (by rfl) 40 (.tmp 16) (.tmp 100) (by rfl) tm #[.int .u64 (hiW (mk + am)), .int .u64 (loW (mk + am))] (by rfl) (by rfl) 40 _ GX3.out infoM (by rfl) (by simp [Value.oneCell']) ?_
                obtain ⟨Y4, hY4⟩ : ∃ Y, X3.setRow tm #[.int .u64 (hiW (mk + am)), .int .u64 (loW (mk + am))] = Y := ⟨_, rfl⟩
                have OY4 := hid (show Kp (fun j => j = tm) Z Y4 from OX3.out.trans (by rw [← hY4]; exact setRow_kp _ _ _) (fun _ _ h => h))
                have GY4 := hid (show Y4.heap[tm]? = some (.cells #[.int .u64 (hiW (mk + am)), .int .u64 (loW (mk + am))] 40 (0, 0)) from by rw [← hY4]; exact setRow_heap _ _ _ _ 40 (0, 0) GX3.out)
                rw [hY4]
                clear hY4
                refine hK.out _ _ ?_ (fun hHeld => ?_)
                · (try dsimp only); exact ⟨E4.out _ OY4.out, E5.out _ OY4.out⟩
                clear hK K
                try simp only [lgA, lgB, lgC, Act.put, lsA, lsB, lsC]
                refine wpAnyH_done (by kernel_rfl) ?_ _
                by_cases hc2 : fm = x0 ∧ fk = x1
                · have e2 : decide (fm = x0 ∧ fk = x1) = true := decide_eq_true hc2
                  have HC2 := hid hc2
                  clear hc2
                  go_upto_region 24 with fail
                  obtain ⟨V5, hV5⟩ : ∃ U, Y4.drew = U := ⟨_, rfl⟩
                  have DV5 := hid (show Below Y4.heap.size Y4 V5 from by rw [← hV5]; exact bdrew1 _)
                  have OV5 := hid (OY4.out.trans (Kp.of (fun j => j = tm) DV5.out) (fun _ _ h => h))
                  refine wp_region_held_drew (S := fun U => U.cell? ⟨b6, o6 + k * 6, none⟩ = some (.int .u32 fm) ∧ U.cell? ⟨b6, o6 + k * 6 + 1, none⟩ = some (.int .i64 fk) ∧ U.cell? ⟨ba, oa + i * 2, none⟩ = some (.int .u32 x0) ∧ U.cell? ⟨ba, oa + i * 2 + 1, none⟩ = some (.int .i64 x1)) (by kernel_rfl) ?_ (fun hHeld => ?_)
                  · (try dsimp only); rw [hV5]; exact ⟨E0.out _ OV5.out, E1.out _ OV5.out, A0.out _ OV5.out, A1.out _ OV5.out⟩
                  rw [hV5] at hHeld ⊢
                  clear hV5
                  refine' wpAnyH_take (i := 0) rfl (by kernel_rfl) (by kernel_rfl) (by kernel_rfl) (fun _ _ _ h => h) (Or.inl ⟨by kernel_rfl, ?_⟩) (by assumption) ?_
                  rotate_left
                  · (intro w hSw; (try dsimp only at hSw); go_simp; try (with_reducible rfl))
                  try simp only [lgA, lgB, lgC, Act.put, lsA, lsB, lsC]
                  refine' wpAnyH_take (i := 1) rfl (by kernel_rfl) (by kernel_rfl) (by kernel_rfl) (fun _ _ _ h => h) (Or.inl ⟨by kernel_rfl, ?_⟩) (by assumption) ?_
                  rotate_left
                  · (intro w hSw; (try dsimp only at hSw); go_simp; try (with_reducible rfl))
                  try simp only [lgA, lgB, lgC, Act.put, lsA, lsB, lsC]
                  refine' wpAnyH_take (i := 2) rfl (by kernel_rfl) (by kernel_rfl) (by kernel_rfl) (fun _ _ _ h => h) (Or.inl ⟨by kernel_rfl, ?_⟩) (by assumption) ?_
                  rotate_left
                  · (intro w hSw; (try dsimp only at hSw); go_simp; try (with_reducible rfl))
                  try simp only [lgA, lgB, lgC, Act.put, lsA, lsB, lsC]
                  refine' wpAnyH_take (i := 3) rfl (by kernel_rfl) (by kernel_rfl) (by kernel_rfl) (fun _ _ _ h => h) (Or.inl ⟨by kernel_rfl, ?_⟩) (by assumption) ?_
                  rotate_left
                  · (intro w hSw; (try dsimp only at hSw); go_simp; try (with_reducible rfl))
                  try simp only [lgA, lgB, lgC, Act.put, lsA, lsB, lsC]
                  refine' wpAnyH_take (i := 4) rfl (by kernel_rfl) (by kernel_rfl) (by kernel_rfl) (fun _ _ _ h => h) (Or.inl ⟨by kernel_rfl, ?_⟩) (by assumption) ?_
                  rotate_left
                  · (intro w hSw; (try dsimp only at hSw); go_simp; try (with_reducible rfl))
                  try simp only [lgA, lgB, lgC, Act.put, lsA, lsB, lsC]
                  refine' wpAnyH_take (i := 5) rfl (by kernel_rfl) (by kernel_rfl) (by kernel_rfl) (fun _ _ _ h => h) (Or.inl ⟨by kernel_rfl, ?_⟩) (by assumption) ?_
                  rotate_left
                  · (intro w hSw; (try dsimp only at hSw); go_simp; try (with_reducible rfl))
                  try simp only [lgA, lgB, lgC, Act.put, lsA, lsB, lsC]
                  refine' wpAnyH_take (i := 6) rfl (by kernel_rfl) (by kernel_rfl) (by kernel_rfl) (fun _ _ _ h => h) (Or.inl ⟨by kernel_rfl, ?_⟩) (by assumption) ?_
                  rotate_left
                  · (intro w hSw; (try dsimp only at hSw); go_simp; try (with_reducible rfl))
                  try simp only [lgA, lgB, lgC, Act.put, lsA, lsB, lsC]
                  refine' wpAnyH_take (i := 7) rfl (by kernel_rfl) (by kernel_rfl) (by kernel_rfl) (fun _ _ _ h => h) (Or.inl ⟨by kernel_rfl, ?_⟩) (by assumption) ?_
                  rotate_left
                  · (intro w hSw; (try dsimp only at hSw); go_simp; try (with_reducible rfl))
                  try simp only [lgA, lgB, lgC, Act.put, lsA, lsB, lsC]
                  refine' wpAnyH_take (i := 8) rfl (by kernel_rfl) (by kernel_rfl) (by kernel_rfl) (fun _ _ _ h => h) (Or.inl ⟨by kernel_rfl, ?_⟩) (by assumption) ?_
                  rotate_left
                  · (intro w hSw; (try dsimp only at hSw); go_simp; try (with_reducible rfl))
                  try simp only [lgA, lgB, lgC, Act.put, lsA, lsB, lsC]
                  refine' wpAnyH_take (i := 9) rfl (by kernel_rfl) (by kernel_rfl) (by kernel_rfl) (fun _ _ _ h => h) (Or.inl ⟨by kernel_rfl, ?_⟩) (by assumption) ?_
                  rotate_left
                  · (intro w hSw; (try dsimp only at hSw); go_simp; try (with_reducible rfl))
                  try simp only [lgA, lgB, lgC, Act.put, lsA, lsB, lsC]
                  refine wpAnyH_done (by kernel_rfl) ?_ _
                  have GR := hid (row_on GY4.out DV5.out)
                  go_upto_region 25 with fail
                  obtain ⟨V6, hV6⟩ : ∃ U, V5.drew = U := ⟨_, rfl⟩
                  have DV6 := hid (show Below V5.heap.size V5 V6 from by rw [← hV6]; exact bdrew1 _)
                  have OV6 := hid (OV5.out.trans (Kp.of (fun j => j = tm) DV6.out) (fun _ _ h => h))
                  have GV6 := hid (row_on GR.out DV6.out)
                  refine wp_region_held_drew (S := fun U => U.cell? ⟨b6, o6 + k * 6 + 4, none⟩ = some (.int .u64 (hiW am)) ∧ U.cell? ⟨b6, o6 + k * 6 + 5, none⟩ = some (.int .u64 (loW am))) (by kernel_rfl) ?_ (fun hHeld => ?_)
                  · (try dsimp only); rw [hV6]; exact ⟨E4.out _ OV6.out, E5.out _ OV6.out⟩
                  rw [hV6] at hHeld ⊢
                  clear hV6
                  refine' wpAnyH_take (i := 1) rfl (by kernel_rfl) (by kernel_rfl) (by kernel_rfl) (fun _ _ _ h => h) (Or.inl ⟨by kernel_rfl, ?_⟩) (by assumption) ?_
                  rotate_left
                  · (intro w hSw; (try dsimp only at hSw); go_simp; try (with_reducible rfl))
                  try simp only [lgA, lgB, lgC, Act.put, lsA, lsB, lsC]
                  refine' wpAnyH_take (i := 2) rfl (by kernel_rfl) (by kernel_rfl) (by kernel_rfl) (fun _ _ _ h => h) (Or.inl ⟨by kernel_rfl, ?_⟩) (by assumption) ?_
                  rotate_left
                  · (intro w hSw; (try dsimp only at hSw); go_simp; try (with_reducible rfl))
                  try simp only [lgA, lgB, lgC, Act.put, lsA, lsB, lsC]
                  refine' wpAnyH_take (i := 3) rfl (by kernel_rfl) (by kernel_rfl) (by kernel_rfl) (fun _ _ _ h => h) (Or.inl ⟨by kernel_rfl, ?_⟩) (by assumption) ?_
                  rotate_left
                  · (intro w hSw; (try dsimp only at hSw); go_simp; try (with_reducible rfl))
                  try simp only [lgA, lgB, lgC, Act.put, lsA, lsB, lsC]
                  refine' wpAnyH_take (i := 4) rfl (by kernel_rfl) (by kernel_rfl) (by kernel_rfl) (fun _ _ _ h => h) (Or.inl ⟨by kernel_rfl, ?_⟩) (by assumption) ?_
                  rotate_left
                  · (intro w hSw; (try dsimp only at hSw); go_simp; try (with_reducible rfl))
                  try simp only [lgA, lgB, lgC, Act.put, lsA, lsB, lsC]
                  refine' wpAnyH_take (i := 5) rfl (by kernel_rfl) (by kernel_rfl) (by kernel_rfl) (fun _ _ _ h => h) (Or.inl ⟨by kernel_rfl, ?_⟩) (by assumption) ?_
                  rotate_left
                  · (intro w hSw; (try dsimp only at hSw); go_simp; try (with_reducible rfl))
                  try simp only [lgA, lgB, lgC, Act.put, lsA, lsB, lsC]
                  refine wpAnyH_ready (rs := [0, 6]) (by kernel_rfl) (by simp) ?_
                  refine (AllReadyH.cons rfl (fun K hK => ?_) (AllReadyH.cons rfl (fun K hK => ?_) AllReadyH.nil))
                  · have l0 := row_cell GV6.out 0
                    have l1 := row_cell GV6.out 1
                    simp only [lqA, lqB, lqC] at l0 l1
                    go_simp
                    clear l0 l1
                    refine hK.out _ _ ?_ (fun hHeld => ?_)
                    · (try dsimp only); exact ⟨E4.out _ OV6.out, E5.out _ OV6.out⟩
                    clear hK K
                    try simp only [lgA, lgB, lgC, Act.put, lsA, lsB, lsC]
                    refine wpAnyH_ready (rs := [6]) (by kernel_rfl) (by simp) ?_
                    refine (AllReadyH.cons rfl (fun K hK => ?_) AllReadyH.nil)
                    go_simp
                    go_at_call 13
                    with_reducible refine (CN1.out V6).mono ?_
                    rintro e X7 ⟨rfl, DbX7⟩
                    have OX7 := hid (OV6.out.trans (Kp.of (fun j => j = tm) DbX7.out) (fun _ _ h => h))
                    have GX7 := hid (row_on GV6.out DbX7.out)
                    (try go_wp2_with fail)
                    refine hK.out _ _ ?_ (fun hHeld => ?_)
                    · (try dsimp only); exact ⟨E4.out _ OX7.out, E5.out _ OX7.out⟩
                    clear hK K
                    try simp only [lgA, lgB, lgC, Act.put, lsA, lsB, lsC]
                    refine wpAnyH_ready (rs := [7]) (by kernel_rfl) (by simp) ?_
                    refine (AllReadyH.cons rfl (fun K hK => ?_) AllReadyH.nil)
                    go_simp
                    go_at_call 12
                    with_reducible refine (CS2.out X7).mono ?_
                    rintro e X8 ⟨rfl, DbX8⟩
                    have OX8 := hid (OX7.out.trans (Kp.of (fun j => j = tm) DbX8.out) (fun _ _ h => h))
                    have GX8 := hid (row_on GX7.out DbX8.out)
                    (try go_wp2_with fail)
                    refine hK.out _ _ ?_ (fun hHeld => ?_)
                    · (try dsimp only); exact ⟨E4.out _ OX8.out, E5.out _ OX8.out⟩
                    clear hK K
                    try simp only [lgA, lgB, lgC, Act.put, lsA, lsB, lsC]
                    refine wpAnyH_ready (rs := [8]) (by kernel_rfl) (by simp) ?_
                    refine (AllReadyH.cons rfl (fun K hK => ?_) AllReadyH.nil)
                    refine step_store_row (by rfl) 40 (.tmp 16) (.tmp 118) (by rfl) tm #[.int .u64 (hiW (mk + am + -am)), .int .u64 (loW (mk + am + -am))] (by rfl) (by rfl) 40 _ GX8.out infoM (by rfl) (by simp [Value.oneCell']) ?_
                    obtain ⟨Y9, hY9⟩ : ∃ Y, X8.setRow tm #[.int .u64 (hiW (mk + am + -am)), .int .u64 (loW (mk + am + -am))] = Y := ⟨_, rfl⟩
                    have OY9 := hid (show Kp (fun j => j = tm) Z Y9 from OX8.out.trans (by rw [← hY9]; exact setRow_kp _ _ _) (fun _ _ h => h))
                    have GY9 := hid (show Y9.heap[tm]? = some (.cells #[.int .u64 (hiW (mk + am + -am)), .int .u64 (loW (mk + am + -am))] 40 (0, 0)) from by rw [← hY9]; exact setRow_heap _ _ _ _ 40 (0, 0) GX8.out)
                    rw [hY9]
                    clear hY9
                    refine hK.out _ _ ?_ (fun hHeld => ?_)
                    · (try dsimp only); exact ⟨E4.out _ OY9.out, E5.out _ OY9.out⟩
                    clear hK K
                    try simp only [lgA, lgB, lgC, Act.put, lsA, lsB, lsC]
                    refine wpAnyH_done (by kernel_rfl) ?_ _
                    go_wp2
                    go_roundw
                    case rel => exact ⟨k + 1, HKL.out, by go_num, OY9, hid (by rw [HTK.out, show mk + brg ⟨fm, fk, tm9, tk9, am⟩ (x0, x1) = mk + am + -am from by have hc1 := HC1.out; have hc2 := HC2.out; unfold brg; rw [if_pos (by rw [hc1.1, hc1.2]), if_pos (by rw [hc2.1, hc2.2])]; (try dsimp only); omega]; exact GY9.out)⟩
                    case measure => simp [intOf]; omega
                  · go_simp
                    go_at_call 13
                    with_reducible refine (CN1.out V6).mono ?_
                    rintro e X10 ⟨rfl, DbX10⟩
                    have OX10 := hid (OV6.out.trans (Kp.of (fun j => j = tm) DbX10.out) (fun _ _ h => h))
                    have GX10 := hid (row_on GV6.out DbX10.out)
                    (try go_wp2_with fail)
                    refine hK.out _ _ ?_ (fun hHeld => ?_)
                    · (try dsimp only); exact ⟨E4.out _ OX10.out, E5.out _ OX10.out⟩
                    clear hK K
                    try simp only [lgA, lgB, lgC, Act.put, lsA, lsB, lsC]
                    refine wpAnyH_ready (rs := [0]) (by kernel_rfl) (by simp) ?_
                    refine (AllReadyH.cons rfl (fun K hK => ?_) AllReadyH.nil)
                    have l0 := row_cell GX10.out 0
                    have l1 := row_cell GX10.out 1
                    simp only [lqA, lqB, lqC] at l0 l1
                    go_simp
                    clear l0 l1
                    refine hK.out _ _ ?_ (fun hHeld => ?_)
                    · (try dsimp only); exact ⟨E4.out _ OX10.out, E5.out _ OX10.out⟩
                    clear hK K
                    try simp only [lgA, lgB, lgC, Act.put, lsA, lsB, lsC]
                    refine wpAnyH_ready (rs := [7]) (by kernel_rfl) (by simp) ?_
                    refine (AllReadyH.cons rfl (fun K hK => ?_) AllReadyH.nil)
                    go_simp
                    go_at_call 12
                    with_reducible refine (CS2.out X10).mono ?_
                    rintro e X11 ⟨rfl, DbX11⟩
                    have OX11 := hid (OX10.out.trans (Kp.of (fun j => j = tm) DbX11.out) (fun _ _ h => h))
                    have GX11 := hid (row_on GX10.out DbX11.out)
                    (try go_wp2_with fail)
                    refine hK.out _ _ ?_ (fun hHeld => ?_)
                    · (try dsimp only); exact ⟨E4.out _ OX11.out, E5.out _ OX11.out⟩
                    clear hK K
                    try simp only [lgA, lgB, lgC, Act.put, lsA, lsB, lsC]
                    refine wpAnyH_ready (rs := [8]) (by kernel_rfl) (by simp) ?_
                    refine (AllReadyH.cons rfl (fun K hK => ?_) AllReadyH.nil)
                    refine step_store_row (by rfl) 40 (.tmp 16) (.tmp 118) (by rfl) tm #[.int .u64 (hiW (mk + am + -am)), .int .u64 (loW (mk + am + -am))] (by rfl) (by rfl) 40 _ GX11.out infoM (by rfl) (by simp [Value.oneCell']) ?_
                    obtain ⟨Y12, hY12⟩ : ∃ Y, X11.setRow tm #[.int .u64 (hiW (mk + am + -am)), .int .u64 (loW (mk + am + -am))] = Y := ⟨_, rfl⟩
                    have OY12 := hid (show Kp (fun j => j = tm) Z Y12 from OX11.out.trans (by rw [← hY12]; exact setRow_kp _ _ _) (fun _ _ h => h))
                    have GY12 := hid (show Y12.heap[tm]? = some (.cells #[.int .u64 (hiW (mk + am + -am)), .int .u64 (loW (mk + am + -am))] 40 (0, 0)) from by rw [← hY12]; exact setRow_heap _ _ _ _ 40 (0, 0) GX11.out)
                    rw [hY12]
                    clear hY12
                    refine hK.out _ _ ?_ (fun hHeld => ?_)
                    · (try dsimp only); exact ⟨E4.out _ OY12.out, E5.out _ OY12.out⟩
                    clear hK K
                    try simp only [lgA, lgB, lgC, Act.put, lsA, lsB, lsC]
                    refine wpAnyH_done (by kernel_rfl) ?_ _
                    go_wp2
                    go_roundw
                    case rel => exact ⟨k + 1, HKL.out, by go_num, OY12, hid (by rw [HTK.out, show mk + brg ⟨fm, fk, tm9, tk9, am⟩ (x0, x1) = mk + am + -am from by have hc1 := HC1.out; have hc2 := HC2.out; unfold brg; rw [if_pos (by rw [hc1.1, hc1.2]), if_pos (by rw [hc2.1, hc2.2])]; (try dsimp only); omega]; exact GY12.out)⟩
                    case measure => simp [intOf]; omega
                · have e2 : decide (fm = x0 ∧ fk = x1) = false := decide_eq_false hc2
                  have HC2 := hid hc2
                  clear hc2
                  go_upto_region 24 with fail
                  obtain ⟨V13, hV13⟩ : ∃ U, Y4.drew = U := ⟨_, rfl⟩
                  have DV13 := hid (show Below Y4.heap.size Y4 V13 from by rw [← hV13]; exact bdrew1 _)
                  have OV13 := hid (OY4.out.trans (Kp.of (fun j => j = tm) DV13.out) (fun _ _ h => h))
                  refine wp_region_held_drew (S := fun U => U.cell? ⟨b6, o6 + k * 6, none⟩ = some (.int .u32 fm) ∧ U.cell? ⟨b6, o6 + k * 6 + 1, none⟩ = some (.int .i64 fk) ∧ U.cell? ⟨ba, oa + i * 2, none⟩ = some (.int .u32 x0) ∧ U.cell? ⟨ba, oa + i * 2 + 1, none⟩ = some (.int .i64 x1)) (by kernel_rfl) ?_ (fun hHeld => ?_)
                  · (try dsimp only); rw [hV13]; exact ⟨E0.out _ OV13.out, E1.out _ OV13.out, A0.out _ OV13.out, A1.out _ OV13.out⟩
                  rw [hV13] at hHeld ⊢
                  clear hV13
                  refine' wpAnyH_take (i := 0) rfl (by kernel_rfl) (by kernel_rfl) (by kernel_rfl) (fun _ _ _ h => h) (Or.inl ⟨by kernel_rfl, ?_⟩) (by assumption) ?_
                  rotate_left
                  · (intro w hSw; (try dsimp only at hSw); go_simp; try (with_reducible rfl))
                  try simp only [lgA, lgB, lgC, Act.put, lsA, lsB, lsC]
                  refine' wpAnyH_take (i := 1) rfl (by kernel_rfl) (by kernel_rfl) (by kernel_rfl) (fun _ _ _ h => h) (Or.inl ⟨by kernel_rfl, ?_⟩) (by assumption) ?_
                  rotate_left
                  · (intro w hSw; (try dsimp only at hSw); go_simp; try (with_reducible rfl))
                  try simp only [lgA, lgB, lgC, Act.put, lsA, lsB, lsC]
                  refine' wpAnyH_take (i := 2) rfl (by kernel_rfl) (by kernel_rfl) (by kernel_rfl) (fun _ _ _ h => h) (Or.inl ⟨by kernel_rfl, ?_⟩) (by assumption) ?_
                  rotate_left
                  · (intro w hSw; (try dsimp only at hSw); go_simp; try (with_reducible rfl))
                  try simp only [lgA, lgB, lgC, Act.put, lsA, lsB, lsC]
                  refine' wpAnyH_take (i := 3) rfl (by kernel_rfl) (by kernel_rfl) (by kernel_rfl) (fun _ _ _ h => h) (Or.inl ⟨by kernel_rfl, ?_⟩) (by assumption) ?_
                  rotate_left
                  · (intro w hSw; (try dsimp only at hSw); go_simp; try (with_reducible rfl))
                  try simp only [lgA, lgB, lgC, Act.put, lsA, lsB, lsC]
                  refine' wpAnyH_take (i := 4) rfl (by kernel_rfl) (by kernel_rfl) (by kernel_rfl) (fun _ _ _ h => h) (Or.inl ⟨by kernel_rfl, ?_⟩) (by assumption) ?_
                  rotate_left
                  · (intro w hSw; (try dsimp only at hSw); go_simp; try (with_reducible rfl))
                  try simp only [lgA, lgB, lgC, Act.put, lsA, lsB, lsC]
                  refine' wpAnyH_take (i := 5) rfl (by kernel_rfl) (by kernel_rfl) (by kernel_rfl) (fun _ _ _ h => h) (Or.inl ⟨by kernel_rfl, ?_⟩) (by assumption) ?_
                  rotate_left
                  · (intro w hSw; (try dsimp only at hSw); go_simp; try (with_reducible rfl))
                  try simp only [lgA, lgB, lgC, Act.put, lsA, lsB, lsC]
                  refine' wpAnyH_take (i := 6) rfl (by kernel_rfl) (by kernel_rfl) (by kernel_rfl) (fun _ _ _ h => h) (Or.inl ⟨by kernel_rfl, ?_⟩) (by assumption) ?_
                  rotate_left
                  · (intro w hSw; (try dsimp only at hSw); go_simp; try (with_reducible rfl))
                  try simp only [lgA, lgB, lgC, Act.put, lsA, lsB, lsC]
                  refine' wpAnyH_take (i := 7) rfl (by kernel_rfl) (by kernel_rfl) (by kernel_rfl) (fun _ _ _ h => h) (Or.inl ⟨by kernel_rfl, ?_⟩) (by assumption) ?_
                  rotate_left
                  · (intro w hSw; (try dsimp only at hSw); go_simp; try (with_reducible rfl))
                  try simp only [lgA, lgB, lgC, Act.put, lsA, lsB, lsC]
                  refine' wpAnyH_take (i := 8) rfl (by kernel_rfl) (by kernel_rfl) (by kernel_rfl) (fun _ _ _ h => h) (Or.inl ⟨by kernel_rfl, ?_⟩) (by assumption) ?_
                  rotate_left
                  · (intro w hSw; (try dsimp only at hSw); go_simp; try (with_reducible rfl))
                  try simp only [lgA, lgB, lgC, Act.put, lsA, lsB, lsC]
                  refine' wpAnyH_take (i := 9) rfl (by kernel_rfl) (by kernel_rfl) (by kernel_rfl) (fun _ _ _ h => h) (Or.inl ⟨by kernel_rfl, ?_⟩) (by assumption) ?_
                  rotate_left
                  · (intro w hSw; (try dsimp only at hSw); go_simp; try (with_reducible rfl))
                  try simp only [lgA, lgB, lgC, Act.put, lsA, lsB, lsC]
                  refine wpAnyH_done (by kernel_rfl) ?_ _
                  have GR := hid (row_on GY4.out DV13.out)
                  go_wp2
                  go_roundw
                  case rel => exact ⟨k + 1, HKL.out, by go_num, OV13, hid (by rw [HTK.out, show mk + brg ⟨fm, fk, tm9, tk9, am⟩ (x0, x1) = mk + am from by have hc1 := HC1.out; have hc2 := HC2.out; unfold brg; rw [if_pos (by rw [hc1.1, hc1.2]), if_neg (fun e => hc2 ⟨congrArg Prod.fst e, congrArg Prod.snd e⟩)]; (try dsimp only); omega]; exact GR.out)⟩
                  case measure => simp [intOf]; omega
              · have e1 : decide (tm9 = x0 ∧ tk9 = x1) = false := decide_eq_false hc1
                have HC1 := hid hc1
                clear hc1
                go_upto_region 22 with fail
                obtain ⟨V14, hV14⟩ : ∃ U, wr.drew = U := ⟨_, rfl⟩
                have DV14 := hid (show Below wr.heap.size wr V14 from by rw [← hV14]; exact bdrew1 _)
                have OV14 := hid (HKZ.out.trans (Kp.of (fun j => j = tm) DV14.out) (fun _ _ h => h))
                refine wp_region_held_drew (S := fun U => U.cell? ⟨b6, o6 + k * 6 + 2, none⟩ = some (.int .u32 tm9) ∧ U.cell? ⟨b6, o6 + k * 6 + 3, none⟩ = some (.int .i64 tk9) ∧ U.cell? ⟨ba, oa + i * 2, none⟩ = some (.int .u32 x0) ∧ U.cell? ⟨ba, oa + i * 2 + 1, none⟩ = some (.int .i64 x1)) (by kernel_rfl) ?_ (fun hHeld => ?_)
                · (try dsimp only); rw [hV14]; exact ⟨E2.out _ OV14.out, E3.out _ OV14.out, A0.out _ OV14.out, A1.out _ OV14.out⟩
                rw [hV14] at hHeld ⊢
                clear hV14
                refine' wpAnyH_take (i := 0) rfl (by kernel_rfl) (by kernel_rfl) (by kernel_rfl) (fun _ _ _ h => h) (Or.inl ⟨by kernel_rfl, ?_⟩) (by assumption) ?_
                rotate_left
                · (intro w hSw; (try dsimp only at hSw); go_simp; try (with_reducible rfl))
                try simp only [lgA, lgB, lgC, Act.put, lsA, lsB, lsC]
                refine' wpAnyH_take (i := 1) rfl (by kernel_rfl) (by kernel_rfl) (by kernel_rfl) (fun _ _ _ h => h) (Or.inl ⟨by kernel_rfl, ?_⟩) (by assumption) ?_
                rotate_left
                · (intro w hSw; (try dsimp only at hSw); go_simp; try (with_reducible rfl))
                try simp only [lgA, lgB, lgC, Act.put, lsA, lsB, lsC]
                refine' wpAnyH_take (i := 2) rfl (by kernel_rfl) (by kernel_rfl) (by kernel_rfl) (fun _ _ _ h => h) (Or.inl ⟨by kernel_rfl, ?_⟩) (by assumption) ?_
                rotate_left
                · (intro w hSw; (try dsimp only at hSw); go_simp; try (with_reducible rfl))
                try simp only [lgA, lgB, lgC, Act.put, lsA, lsB, lsC]
                refine' wpAnyH_take (i := 3) rfl (by kernel_rfl) (by kernel_rfl) (by kernel_rfl) (fun _ _ _ h => h) (Or.inl ⟨by kernel_rfl, ?_⟩) (by assumption) ?_
                rotate_left
                · (intro w hSw; (try dsimp only at hSw); go_simp; try (with_reducible rfl))
                try simp only [lgA, lgB, lgC, Act.put, lsA, lsB, lsC]
                refine' wpAnyH_take (i := 4) rfl (by kernel_rfl) (by kernel_rfl) (by kernel_rfl) (fun _ _ _ h => h) (Or.inl ⟨by kernel_rfl, ?_⟩) (by assumption) ?_
                rotate_left
                · (intro w hSw; (try dsimp only at hSw); go_simp; try (with_reducible rfl))
                try simp only [lgA, lgB, lgC, Act.put, lsA, lsB, lsC]
                refine' wpAnyH_take (i := 5) rfl (by kernel_rfl) (by kernel_rfl) (by kernel_rfl) (fun _ _ _ h => h) (Or.inl ⟨by kernel_rfl, ?_⟩) (by assumption) ?_
                rotate_left
                · (intro w hSw; (try dsimp only at hSw); go_simp; try (with_reducible rfl))
                try simp only [lgA, lgB, lgC, Act.put, lsA, lsB, lsC]
                refine' wpAnyH_take (i := 6) rfl (by kernel_rfl) (by kernel_rfl) (by kernel_rfl) (fun _ _ _ h => h) (Or.inl ⟨by kernel_rfl, ?_⟩) (by assumption) ?_
                rotate_left
                · (intro w hSw; (try dsimp only at hSw); go_simp; try (with_reducible rfl))
                try simp only [lgA, lgB, lgC, Act.put, lsA, lsB, lsC]
                refine' wpAnyH_take (i := 7) rfl (by kernel_rfl) (by kernel_rfl) (by kernel_rfl) (fun _ _ _ h => h) (Or.inl ⟨by kernel_rfl, ?_⟩) (by assumption) ?_
                rotate_left
                · (intro w hSw; (try dsimp only at hSw); go_simp; try (with_reducible rfl))
                try simp only [lgA, lgB, lgC, Act.put, lsA, lsB, lsC]
                refine' wpAnyH_take (i := 8) rfl (by kernel_rfl) (by kernel_rfl) (by kernel_rfl) (fun _ _ _ h => h) (Or.inl ⟨by kernel_rfl, ?_⟩) (by assumption) ?_
                rotate_left
                · (intro w hSw; (try dsimp only at hSw); go_simp; try (with_reducible rfl))
                try simp only [lgA, lgB, lgC, Act.put, lsA, lsB, lsC]
                refine' wpAnyH_take (i := 9) rfl (by kernel_rfl) (by kernel_rfl) (by kernel_rfl) (fun _ _ _ h => h) (Or.inl ⟨by kernel_rfl, ?_⟩) (by assumption) ?_
                rotate_left
                · (intro w hSw; (try dsimp only at hSw); go_simp; try (with_reducible rfl))
                try simp only [lgA, lgB, lgC, Act.put, lsA, lsB, lsC]
                refine wpAnyH_done (by kernel_rfl) ?_ _
                have GR1 := hid (row_on HGM.out DV14.out)
                by_cases hc2 : fm = x0 ∧ fk = x1
                · have e2 : decide (fm = x0 ∧ fk = x1) = true := decide_eq_true hc2
                  have HC2 := hid hc2
                  clear hc2
                  go_upto_region 24 with fail
                  obtain ⟨V15, hV15⟩ : ∃ U, V14.drew = U := ⟨_, rfl⟩
                  have DV15 := hid (show Below V14.heap.size V14 V15 from by rw [← hV15]; exact bdrew1 _)
                  have OV15 := hid (OV14.out.trans (Kp.of (fun j => j = tm) DV15.out) (fun _ _ h => h))
                  refine wp_region_held_drew (S := fun U => U.cell? ⟨b6, o6 + k * 6, none⟩ = some (.int .u32 fm) ∧ U.cell? ⟨b6, o6 + k * 6 + 1, none⟩ = some (.int .i64 fk) ∧ U.cell? ⟨ba, oa + i * 2, none⟩ = some (.int .u32 x0) ∧ U.cell? ⟨ba, oa + i * 2 + 1, none⟩ = some (.int .i64 x1)) (by kernel_rfl) ?_ (fun hHeld => ?_)
                  · (try dsimp only); rw [hV15]; exact ⟨E0.out _ OV15.out, E1.out _ OV15.out, A0.out _ OV15.out, A1.out _ OV15.out⟩
                  rw [hV15] at hHeld ⊢
                  clear hV15
                  refine' wpAnyH_take (i := 0) rfl (by kernel_rfl) (by kernel_rfl) (by kernel_rfl) (fun _ _ _ h => h) (Or.inl ⟨by kernel_rfl, ?_⟩) (by assumption) ?_
                  rotate_left
                  · (intro w hSw; (try dsimp only at hSw); go_simp; try (with_reducible rfl))
                  try simp only [lgA, lgB, lgC, Act.put, lsA, lsB, lsC]
                  refine' wpAnyH_take (i := 1) rfl (by kernel_rfl) (by kernel_rfl) (by kernel_rfl) (fun _ _ _ h => h) (Or.inl ⟨by kernel_rfl, ?_⟩) (by assumption) ?_
                  rotate_left
                  · (intro w hSw; (try dsimp only at hSw); go_simp; try (with_reducible rfl))
                  try simp only [lgA, lgB, lgC, Act.put, lsA, lsB, lsC]
                  refine' wpAnyH_take (i := 2) rfl (by kernel_rfl) (by kernel_rfl) (by kernel_rfl) (fun _ _ _ h => h) (Or.inl ⟨by kernel_rfl, ?_⟩) (by assumption) ?_
                  rotate_left
                  · (intro w hSw; (try dsimp only at hSw); go_simp; try (with_reducible rfl))
                  try simp only [lgA, lgB, lgC, Act.put, lsA, lsB, lsC]
                  refine' wpAnyH_take (i := 3) rfl (by kernel_rfl) (by kernel_rfl) (by kernel_rfl) (fun _ _ _ h => h) (Or.inl ⟨by kernel_rfl, ?_⟩) (by assumption) ?_
                  rotate_left
                  · (intro w hSw; (try dsimp only at hSw); go_simp; try (with_reducible rfl))
                  try simp only [lgA, lgB, lgC, Act.put, lsA, lsB, lsC]
                  refine' wpAnyH_take (i := 4) rfl (by kernel_rfl) (by kernel_rfl) (by kernel_rfl) (fun _ _ _ h => h) (Or.inl ⟨by kernel_rfl, ?_⟩) (by assumption) ?_
                  rotate_left
                  · (intro w hSw; (try dsimp only at hSw); go_simp; try (with_reducible rfl))
                  try simp only [lgA, lgB, lgC, Act.put, lsA, lsB, lsC]
                  refine' wpAnyH_take (i := 5) rfl (by kernel_rfl) (by kernel_rfl) (by kernel_rfl) (fun _ _ _ h => h) (Or.inl ⟨by kernel_rfl, ?_⟩) (by assumption) ?_
                  rotate_left
                  · (intro w hSw; (try dsimp only at hSw); go_simp; try (with_reducible rfl))
                  try simp only [lgA, lgB, lgC, Act.put, lsA, lsB, lsC]
                  refine' wpAnyH_take (i := 6) rfl (by kernel_rfl) (by kernel_rfl) (by kernel_rfl) (fun _ _ _ h => h) (Or.inl ⟨by kernel_rfl, ?_⟩) (by assumption) ?_
                  rotate_left
                  · (intro w hSw; (try dsimp only at hSw); go_simp; try (with_reducible rfl))
                  try simp only [lgA, lgB, lgC, Act.put, lsA, lsB, lsC]
                  refine' wpAnyH_take (i := 7) rfl (by kernel_rfl) (by kernel_rfl) (by kernel_rfl) (fun _ _ _ h => h) (Or.inl ⟨by kernel_rfl, ?_⟩) (by assumption) ?_
                  rotate_left
                  · (intro w hSw; (try dsimp only at hSw); go_simp; try (with_reducible rfl))
                  try simp only [lgA, lgB, lgC, Act.put, lsA, lsB, lsC]
                  refine' wpAnyH_take (i := 8) rfl (by kernel_rfl) (by kernel_rfl) (by kernel_rfl) (fun _ _ _ h => h) (Or.inl ⟨by kernel_rfl, ?_⟩) (by assumption) ?_
                  rotate_left
                  · (intro w hSw; (try dsimp only at hSw); go_simp; try (with_reducible rfl))
                  try simp only [lgA, lgB, lgC, Act.put, lsA, lsB, lsC]
                  refine' wpAnyH_take (i := 9) rfl (by kernel_rfl) (by kernel_rfl) (by kernel_rfl) (fun _ _ _ h => h) (Or.inl ⟨by kernel_rfl, ?_⟩) (by assumption) ?_
                  rotate_left
                  · (intro w hSw; (try dsimp only at hSw); go_simp; try (with_reducible rfl))
                  try simp only [lgA, lgB, lgC, Act.put, lsA, lsB, lsC]
                  refine wpAnyH_done (by kernel_rfl) ?_ _
                  have GR := hid (row_on GR1.out DV15.out)
                  go_upto_region 25 with fail
                  obtain ⟨V16, hV16⟩ : ∃ U, V15.drew = U := ⟨_, rfl⟩
                  have DV16 := hid (show Below V15.heap.size V15 V16 from by rw [← hV16]; exact bdrew1 _)
                  have OV16 := hid (OV15.out.trans (Kp.of (fun j => j = tm) DV16.out) (fun _ _ h => h))
                  have GV16 := hid (row_on GR.out DV16.out)
                  refine wp_region_held_drew (S := fun U => U.cell? ⟨b6, o6 + k * 6 + 4, none⟩ = some (.int .u64 (hiW am)) ∧ U.cell? ⟨b6, o6 + k * 6 + 5, none⟩ = some (.int .u64 (loW am))) (by kernel_rfl) ?_ (fun hHeld => ?_)
                  · (try dsimp only); rw [hV16]; exact ⟨E4.out _ OV16.out, E5.out _ OV16.out⟩
                  rw [hV16] at hHeld ⊢
                  clear hV16
                  refine' wpAnyH_take (i := 1) rfl (by kernel_rfl) (by kernel_rfl) (by kernel_rfl) (fun _ _ _ h => h) (Or.inl ⟨by kernel_rfl, ?_⟩) (by assumption) ?_
                  rotate_left
                  · (intro w hSw; (try dsimp only at hSw); go_simp; try (with_reducible rfl))
                  try simp only [lgA, lgB, lgC, Act.put, lsA, lsB, lsC]
                  refine' wpAnyH_take (i := 2) rfl (by kernel_rfl) (by kernel_rfl) (by kernel_rfl) (fun _ _ _ h => h) (Or.inl ⟨by kernel_rfl, ?_⟩) (by assumption) ?_
                  rotate_left
                  · (intro w hSw; (try dsimp only at hSw); go_simp; try (with_reducible rfl))
                  try simp only [lgA, lgB, lgC, Act.put, lsA, lsB, lsC]
                  refine' wpAnyH_take (i := 3) rfl (by kernel_rfl) (by kernel_rfl) (by kernel_rfl) (fun _ _ _ h => h) (Or.inl ⟨by kernel_rfl, ?_⟩) (by assumption) ?_
                  rotate_left
                  · (intro w hSw; (try dsimp only at hSw); go_simp; try (with_reducible rfl))
                  try simp only [lgA, lgB, lgC, Act.put, lsA, lsB, lsC]
                  refine' wpAnyH_take (i := 4) rfl (by kernel_rfl) (by kernel_rfl) (by kernel_rfl) (fun _ _ _ h => h) (Or.inl ⟨by kernel_rfl, ?_⟩) (by assumption) ?_
                  rotate_left
                  · (intro w hSw; (try dsimp only at hSw); go_simp; try (with_reducible rfl))
                  try simp only [lgA, lgB, lgC, Act.put, lsA, lsB, lsC]
                  refine' wpAnyH_take (i := 5) rfl (by kernel_rfl) (by kernel_rfl) (by kernel_rfl) (fun _ _ _ h => h) (Or.inl ⟨by kernel_rfl, ?_⟩) (by assumption) ?_
                  rotate_left
                  · (intro w hSw; (try dsimp only at hSw); go_simp; try (with_reducible rfl))
                  try simp only [lgA, lgB, lgC, Act.put, lsA, lsB, lsC]
                  refine wpAnyH_ready (rs := [0, 6]) (by kernel_rfl) (by simp) ?_
                  refine (AllReadyH.cons rfl (fun K hK => ?_) (AllReadyH.cons rfl (fun K hK => ?_) AllReadyH.nil))
                  · have l0 := row_cell GV16.out 0
                    have l1 := row_cell GV16.out 1
                    simp only [lqA, lqB, lqC] at l0 l1
                    go_simp
                    clear l0 l1
                    refine hK.out _ _ ?_ (fun hHeld => ?_)
                    · (try dsimp only); exact ⟨E4.out _ OV16.out, E5.out _ OV16.out⟩
                    clear hK K
                    try simp only [lgA, lgB, lgC, Act.put, lsA, lsB, lsC]
                    refine wpAnyH_ready (rs := [6]) (by kernel_rfl) (by simp) ?_
                    refine (AllReadyH.cons rfl (fun K hK => ?_) AllReadyH.nil)
                    go_simp
                    go_at_call 13
                    with_reducible refine (CN1.out V16).mono ?_
                    rintro e X17 ⟨rfl, DbX17⟩
                    have OX17 := hid (OV16.out.trans (Kp.of (fun j => j = tm) DbX17.out) (fun _ _ h => h))
                    have GX17 := hid (row_on GV16.out DbX17.out)
                    (try go_wp2_with fail)
                    refine hK.out _ _ ?_ (fun hHeld => ?_)
                    · (try dsimp only); exact ⟨E4.out _ OX17.out, E5.out _ OX17.out⟩
                    clear hK K
                    try simp only [lgA, lgB, lgC, Act.put, lsA, lsB, lsC]
                    refine wpAnyH_ready (rs := [7]) (by kernel_rfl) (by simp) ?_
                    refine (AllReadyH.cons rfl (fun K hK => ?_) AllReadyH.nil)
                    go_simp
                    go_at_call 12
                    with_reducible refine (CS3.out X17).mono ?_
                    rintro e X18 ⟨rfl, DbX18⟩
                    have OX18 := hid (OX17.out.trans (Kp.of (fun j => j = tm) DbX18.out) (fun _ _ h => h))
                    have GX18 := hid (row_on GX17.out DbX18.out)
                    (try go_wp2_with fail)
                    refine hK.out _ _ ?_ (fun hHeld => ?_)
                    · (try dsimp only); exact ⟨E4.out _ OX18.out, E5.out _ OX18.out⟩
                    clear hK K
                    try simp only [lgA, lgB, lgC, Act.put, lsA, lsB, lsC]
                    refine wpAnyH_ready (rs := [8]) (by kernel_rfl) (by simp) ?_
                    refine (AllReadyH.cons rfl (fun K hK => ?_) AllReadyH.nil)
                    refine step_store_row (by rfl) 40 (.tmp 16) (.tmp 118) (by rfl) tm #[.int .u64 (hiW (mk + -am)), .int .u64 (loW (mk + -am))] (by rfl) (by rfl) 40 _ GX18.out infoM (by rfl) (by simp [Value.oneCell']) ?_
                    obtain ⟨Y19, hY19⟩ : ∃ Y, X18.setRow tm #[.int .u64 (hiW (mk + -am)), .int .u64 (loW (mk + -am))] = Y := ⟨_, rfl⟩
                    have OY19 := hid (show Kp (fun j => j = tm) Z Y19 from OX18.out.trans (by rw [← hY19]; exact setRow_kp _ _ _) (fun _ _ h => h))
                    have GY19 := hid (show Y19.heap[tm]? = some (.cells #[.int .u64 (hiW (mk + -am)), .int .u64 (loW (mk + -am))] 40 (0, 0)) from by rw [← hY19]; exact setRow_heap _ _ _ _ 40 (0, 0) GX18.out)
                    rw [hY19]
                    clear hY19
                    refine hK.out _ _ ?_ (fun hHeld => ?_)
                    · (try dsimp only); exact ⟨E4.out _ OY19.out, E5.out _ OY19.out⟩
                    clear hK K
                    try simp only [lgA, lgB, lgC, Act.put, lsA, lsB, lsC]
                    refine wpAnyH_done (by kernel_rfl) ?_ _
                    go_wp2
                    go_roundw
                    case rel => exact ⟨k + 1, HKL.out, by go_num, OY19, hid (by rw [HTK.out, show mk + brg ⟨fm, fk, tm9, tk9, am⟩ (x0, x1) = mk + -am from by have hc1 := HC1.out; have hc2 := HC2.out; unfold brg; rw [if_neg (fun e => hc1 ⟨congrArg Prod.fst e, congrArg Prod.snd e⟩), if_pos (by rw [hc2.1, hc2.2])]; (try dsimp only); omega]; exact GY19.out)⟩
                    case measure => simp [intOf]; omega
                  · go_simp
                    go_at_call 13
                    with_reducible refine (CN1.out V16).mono ?_
                    rintro e X20 ⟨rfl, DbX20⟩
                    have OX20 := hid (OV16.out.trans (Kp.of (fun j => j = tm) DbX20.out) (fun _ _ h => h))
                    have GX20 := hid (row_on GV16.out DbX20.out)
                    (try go_wp2_with fail)
                    refine hK.out _ _ ?_ (fun hHeld => ?_)
                    · (try dsimp only); exact ⟨E4.out _ OX20.out, E5.out _ OX20.out⟩
                    clear hK K
                    try simp only [lgA, lgB, lgC, Act.put, lsA, lsB, lsC]
                    refine wpAnyH_ready (rs := [0]) (by kernel_rfl) (by simp) ?_
                    refine (AllReadyH.cons rfl (fun K hK => ?_) AllReadyH.nil)
                    have l0 := row_cell GX20.out 0
                    have l1 := row_cell GX20.out 1
                    simp only [lqA, lqB, lqC] at l0 l1
                    go_simp
                    clear l0 l1
                    refine hK.out _ _ ?_ (fun hHeld => ?_)
                    · (try dsimp only); exact ⟨E4.out _ OX20.out, E5.out _ OX20.out⟩
                    clear hK K
                    try simp only [lgA, lgB, lgC, Act.put, lsA, lsB, lsC]
                    refine wpAnyH_ready (rs := [7]) (by kernel_rfl) (by simp) ?_
                    refine (AllReadyH.cons rfl (fun K hK => ?_) AllReadyH.nil)
                    go_simp
                    go_at_call 12
                    with_reducible refine (CS3.out X20).mono ?_
                    rintro e X21 ⟨rfl, DbX21⟩
                    have OX21 := hid (OX20.out.trans (Kp.of (fun j => j = tm) DbX21.out) (fun _ _ h => h))
                    have GX21 := hid (row_on GX20.out DbX21.out)
                    (try go_wp2_with fail)
                    refine hK.out _ _ ?_ (fun hHeld => ?_)
                    · (try dsimp only); exact ⟨E4.out _ OX21.out, E5.out _ OX21.out⟩
                    clear hK K
                    try simp only [lgA, lgB, lgC, Act.put, lsA, lsB, lsC]
                    refine wpAnyH_ready (rs := [8]) (by kernel_rfl) (by simp) ?_
                    refine (AllReadyH.cons rfl (fun K hK => ?_) AllReadyH.nil)
                    refine step_store_row (by rfl) 40 (.tmp 16) (.tmp 118) (by rfl) tm #[.int .u64 (hiW (mk + -am)), .int .u64 (loW (mk + -am))] (by rfl) (by rfl) 40 _ GX21.out infoM (by rfl) (by simp [Value.oneCell']) ?_
                    obtain ⟨Y22, hY22⟩ : ∃ Y, X21.setRow tm #[.int .u64 (hiW (mk + -am)), .int .u64 (loW (mk + -am))] = Y := ⟨_, rfl⟩
                    have OY22 := hid (show Kp (fun j => j = tm) Z Y22 from OX21.out.trans (by rw [← hY22]; exact setRow_kp _ _ _) (fun _ _ h => h))
                    have GY22 := hid (show Y22.heap[tm]? = some (.cells #[.int .u64 (hiW (mk + -am)), .int .u64 (loW (mk + -am))] 40 (0, 0)) from by rw [← hY22]; exact setRow_heap _ _ _ _ 40 (0, 0) GX21.out)
                    rw [hY22]
                    clear hY22
                    refine hK.out _ _ ?_ (fun hHeld => ?_)
                    · (try dsimp only); exact ⟨E4.out _ OY22.out, E5.out _ OY22.out⟩
                    clear hK K
                    try simp only [lgA, lgB, lgC, Act.put, lsA, lsB, lsC]
                    refine wpAnyH_done (by kernel_rfl) ?_ _
                    go_wp2
                    go_roundw
                    case rel => exact ⟨k + 1, HKL.out, by go_num, OY22, hid (by rw [HTK.out, show mk + brg ⟨fm, fk, tm9, tk9, am⟩ (x0, x1) = mk + -am from by have hc1 := HC1.out; have hc2 := HC2.out; unfold brg; rw [if_neg (fun e => hc1 ⟨congrArg Prod.fst e, congrArg Prod.snd e⟩), if_pos (by rw [hc2.1, hc2.2])]; (try dsimp only); omega]; exact GY22.out)⟩
                    case measure => simp [intOf]; omega
                · have e2 : decide (fm = x0 ∧ fk = x1) = false := decide_eq_false hc2
                  have HC2 := hid hc2
                  clear hc2
                  go_upto_region 24 with fail
                  obtain ⟨V23, hV23⟩ : ∃ U, V14.drew = U := ⟨_, rfl⟩
                  have DV23 := hid (show Below V14.heap.size V14 V23 from by rw [← hV23]; exact bdrew1 _)
                  have OV23 := hid (OV14.out.trans (Kp.of (fun j => j = tm) DV23.out) (fun _ _ h => h))
                  refine wp_region_held_drew (S := fun U => U.cell? ⟨b6, o6 + k * 6, none⟩ = some (.int .u32 fm) ∧ U.cell? ⟨b6, o6 + k * 6 + 1, none⟩ = some (.int .i64 fk) ∧ U.cell? ⟨ba, oa + i * 2, none⟩ = some (.int .u32 x0) ∧ U.cell? ⟨ba, oa + i * 2 + 1, none⟩ = some (.int .i64 x1)) (by kernel_rfl) ?_ (fun hHeld => ?_)
                  · (try dsimp only); rw [hV23]; exact ⟨E0.out _ OV23.out, E1.out _ OV23.out, A0.out _ OV23.out, A1.out _ OV23.out⟩
                  rw [hV23] at hHeld ⊢
                  clear hV23
                  refine' wpAnyH_take (i := 0) rfl (by kernel_rfl) (by kernel_rfl) (by kernel_rfl) (fun _ _ _ h => h) (Or.inl ⟨by kernel_rfl, ?_⟩) (by assumption) ?_
                  rotate_left
                  · (intro w hSw; (try dsimp only at hSw); go_simp; try (with_reducible rfl))
                  try simp only [lgA, lgB, lgC, Act.put, lsA, lsB, lsC]
                  refine' wpAnyH_take (i := 1) rfl (by kernel_rfl) (by kernel_rfl) (by kernel_rfl) (fun _ _ _ h => h) (Or.inl ⟨by kernel_rfl, ?_⟩) (by assumption) ?_
                  rotate_left
                  · (intro w hSw; (try dsimp only at hSw); go_simp; try (with_reducible rfl))
                  try simp only [lgA, lgB, lgC, Act.put, lsA, lsB, lsC]
                  refine' wpAnyH_take (i := 2) rfl (by kernel_rfl) (by kernel_rfl) (by kernel_rfl) (fun _ _ _ h => h) (Or.inl ⟨by kernel_rfl, ?_⟩) (by assumption) ?_
                  rotate_left
                  · (intro w hSw; (try dsimp only at hSw); go_simp; try (with_reducible rfl))
                  try simp only [lgA, lgB, lgC, Act.put, lsA, lsB, lsC]
                  refine' wpAnyH_take (i := 3) rfl (by kernel_rfl) (by kernel_rfl) (by kernel_rfl) (fun _ _ _ h => h) (Or.inl ⟨by kernel_rfl, ?_⟩) (by assumption) ?_
                  rotate_left
                  · (intro w hSw; (try dsimp only at hSw); go_simp; try (with_reducible rfl))
                  try simp only [lgA, lgB, lgC, Act.put, lsA, lsB, lsC]
                  refine' wpAnyH_take (i := 4) rfl (by kernel_rfl) (by kernel_rfl) (by kernel_rfl) (fun _ _ _ h => h) (Or.inl ⟨by kernel_rfl, ?_⟩) (by assumption) ?_
                  rotate_left
                  · (intro w hSw; (try dsimp only at hSw); go_simp; try (with_reducible rfl))
                  try simp only [lgA, lgB, lgC, Act.put, lsA, lsB, lsC]
                  refine' wpAnyH_take (i := 5) rfl (by kernel_rfl) (by kernel_rfl) (by kernel_rfl) (fun _ _ _ h => h) (Or.inl ⟨by kernel_rfl, ?_⟩) (by assumption) ?_
                  rotate_left
                  · (intro w hSw; (try dsimp only at hSw); go_simp; try (with_reducible rfl))
                  try simp only [lgA, lgB, lgC, Act.put, lsA, lsB, lsC]
                  refine' wpAnyH_take (i := 6) rfl (by kernel_rfl) (by kernel_rfl) (by kernel_rfl) (fun _ _ _ h => h) (Or.inl ⟨by kernel_rfl, ?_⟩) (by assumption) ?_
                  rotate_left
                  · (intro w hSw; (try dsimp only at hSw); go_simp; try (with_reducible rfl))
                  try simp only [lgA, lgB, lgC, Act.put, lsA, lsB, lsC]
                  refine' wpAnyH_take (i := 7) rfl (by kernel_rfl) (by kernel_rfl) (by kernel_rfl) (fun _ _ _ h => h) (Or.inl ⟨by kernel_rfl, ?_⟩) (by assumption) ?_
                  rotate_left
                  · (intro w hSw; (try dsimp only at hSw); go_simp; try (with_reducible rfl))
                  try simp only [lgA, lgB, lgC, Act.put, lsA, lsB, lsC]
                  refine' wpAnyH_take (i := 8) rfl (by kernel_rfl) (by kernel_rfl) (by kernel_rfl) (fun _ _ _ h => h) (Or.inl ⟨by kernel_rfl, ?_⟩) (by assumption) ?_
                  rotate_left
                  · (intro w hSw; (try dsimp only at hSw); go_simp; try (with_reducible rfl))
                  try simp only [lgA, lgB, lgC, Act.put, lsA, lsB, lsC]
                  refine' wpAnyH_take (i := 9) rfl (by kernel_rfl) (by kernel_rfl) (by kernel_rfl) (fun _ _ _ h => h) (Or.inl ⟨by kernel_rfl, ?_⟩) (by assumption) ?_
                  rotate_left
                  · (intro w hSw; (try dsimp only at hSw); go_simp; try (with_reducible rfl))
                  try simp only [lgA, lgB, lgC, Act.put, lsA, lsB, lsC]
                  refine wpAnyH_done (by kernel_rfl) ?_ _
                  have GR := hid (row_on GR1.out DV23.out)
                  go_wp2
                  go_roundw
                  case rel => exact ⟨k + 1, HKL.out, by go_num, OV23, hid (by rw [HTK.out, show mk + brg ⟨fm, fk, tm9, tk9, am⟩ (x0, x1) = mk from by have hc1 := HC1.out; have hc2 := HC2.out; unfold brg; rw [if_neg (fun e => hc1 ⟨congrArg Prod.fst e, congrArg Prod.snd e⟩), if_neg (fun e => hc2 ⟨congrArg Prod.fst e, congrArg Prod.snd e⟩)]; (try dsimp only); omega]; exact GR.out)⟩
                  case measure => simp [intOf]; omega
            · have ek : k = ne := by omega
              have HGM2 := hid (show wr.heap[tm]? = some (.cells #[.int .u64 (hiW (bal s.es (x0, x1))), .int .u64 (loW (bal s.es (x0, x1)))] 40 (0, 0)) from by have h9 := HGM.out; rw [List.take_of_length_le (by rw [HNE.out]; omega)] at h9; exact h9)
              clear HGM
              subst ek
              have hxm := HXM.out
              have hbx := HDB.out.b (x0, x1)
              have hbl := bal_le s.es (x0, x1) HDB.out.en
              have HOKX := hid (show (Lit.int .u32 x0).wf = true ∧ (Lit.int .i64 x1).wf = true from by
                unfold alls at hxm
                rcases List.mem_cons.1 hxm with e | e
                · obtain ⟨rfl, rfl⟩ := Prod.mk.inj e; exact ⟨u320, wf2⟩
                · rcases List.mem_cons.1 e with e | e
                  · obtain ⟨rfl, rfl⟩ := Prod.mk.inj e; exact ⟨u320, wf3⟩
                  · obtain ⟨m, hm, e⟩ := List.mem_map.1 e; obtain ⟨rfl, rfl⟩ := Prod.mk.inj e; exact ⟨HMB.out.u _ hm, wf1⟩)
              have hto : -((alls ms).length * (33554432 * 9223372036854775808) : Int) ≤ tota ((alls ms).take i) (bal s.es) ∧ tota ((alls ms).take i) (bal s.es) ≤ (alls ms).length * (33554432 * 9223372036854775808) := tota_le HDB.out.en (by rw [HNE.out]; omega)
              rw [HNA.out] at hto
              obtain ⟨bx, hbxe⟩ : ∃ y, bal s.es (x0, x1) = y := ⟨_, rfl⟩
              rw [hbxe] at hbx hbl HGM2
              obtain ⟨tt, htt⟩ : ∃ y, tota ((alls ms).take i) (bal s.es) = y := ⟨_, rfl⟩
              rw [htt] at hto
              have HTS := hid (show tota ((alls ms).take (i + 1)) (bal s.es) = tt + bx from by rw [HTT.out, hbxe, htt])
              rw [HNE.out] at hbl
              have hbA : Amt bx := by unfold Amt; omega
              have htA : Amt tt := by unfold Amt; omega
              have CBa := hid (show ∀ U, Kp (fun j => j = tm) Z U → Calls Try.prog 14 #[.pointer (some ⟨G, 0, none⟩), .agg #[.int .u32 x0, .int .i64 x1]] U fun e w' => e = .returned (mv bx) ∧ Below U.heap.size U w' from fun U hU => by have h9 := nl_balance (NX.out.on (OKX.out U (OKY.out U hU))) x0 x1 HOKX.out.1 HOKX.out.2; rw [hbx] at h9; exact h9)
              have CCm := hid (show ∀ U, Calls Try.prog 15 #[mv bx, mv bx] U fun e w' => e = .returned (.int .i64 0) ∧ Below U.heap.size U w' from fun U => by have h9 := mcompare_any bx bx U hbA hbA; rw [cmp3_self] at h9; exact h9)
              have CSm := hid (show ∀ U, Calls Try.prog 12 #[mv tt, mv bx] U fun e w' => e = .returned (mv (tt + bx)) ∧ Below U.heap.size U w' from fun U => by have h9 := sum_any tt bx U htA hbA; rw [maddV_eq (by omega) (by omega)] at h9; exact h9)
              have GTK := hid (show wr.heap[t14]? = some (.cells #[.int .u64 (hiW tt), .int .u64 (loW tt)] 40 (0, 0)) from by have h9 := HKZ.out.row GTZ.out (fun e => NTM.out e); rw [htt] at h9; exact h9)
              unfold mv at CBa CCm CSm
              have p0 := HA0.out wr (OKY.out wr HKZ.out)
              have p1 := HA1.out wr (OKY.out wr HKZ.out)
              clear hxm hbx hbl hto hbxe htt hbA htA
              go_upto_region 27 with (first | (go_at_call 14; with_reducible refine (CBa.out _ HKZ.out).mono ?_; rintro e u3 ⟨rfl, hb⟩; have HB3 := hid hb; have HZ3 := hid (World.alloc_heap_new u3 (.cells #[.int .u64 0, .int .u64 0] 40)); clear hb) | (refine wpList_store_row (by rfl) 40 (.tmp 18) (.tmp 124) (by rfl) u3.heap.size #[.int .u64 (hiW bx), .int .u64 (loW bx)] (by rfl) (by rfl) 40 _ HZ3.out infoM (by rfl) (by simp [Value.oneCell']) ?_))
              obtain ⟨Q, hQ⟩ : ∃ X, (u3.alloc (.cells #[.int .u64 0, .int .u64 0] 40)).setRow u3.heap.size #[.int .u64 (hiW bx), .int .u64 (loW bx)] = X := ⟨_, rfl⟩
              have GQ := hid (show Q.heap[u3.heap.size]? = some (.cells #[.int .u64 (hiW bx), .int .u64 (loW bx)] 40 (0, 0)) from by rw [← hQ]; exact setRow_heap _ _ _ _ 40 (0, 0) HZ3.out)
              have BQ := hid (btr HB3.out (show Below u3.heap.size u3 Q from by rw [← hQ]; exact setRow_below (ball _ _) (Nat.le_refl _)))
              rw [hQ]
              obtain ⟨t18, ht⟩ : ∃ t, u3.heap.size = t := ⟨_, rfl⟩
              rw [ht] at GQ ⊢
              have LQ := hid (show wr.heap.size ≤ t18 from by have := HB3.out.size; omega)
              clear hQ HZ3 ht p0 p1 HB3
              have GMQ := hid (row_on HGM2.out BQ.out)
              have GTQ := hid (row_on GTK.out BQ.out)
              have r0 := row_cell GQ.out 0
              have r1 := row_cell GQ.out 1
              simp only [lqA, lqB, lqC] at r0 r1
              have v0 := row_cell GMQ.out 0
              have v1 := row_cell GMQ.out 1
              simp only [lqA, lqB, lqC] at v0 v1
              go_upto_region 29 with (go_at_call 15; with_reducible refine (CCm.out _).mono ?_; rintro e u4 ⟨rfl, hb⟩; have HB4 := hid hb; clear hb)
              clear r0 r1 v0 v1
              have GT4 := hid (row_on GTQ.out HB4.out)
              have GQ4 := hid (row_on GQ.out HB4.out)
              have r0 := row_cell GQ4.out 0
              have r1 := row_cell GQ4.out 1
              simp only [lqA, lqB, lqC] at r0 r1
              have v0 := row_cell GT4.out 0
              have v1 := row_cell GT4.out 1
              simp only [lqA, lqB, lqC] at v0 v1
              go_wp2_with (first | (go_at_call 12; with_reducible refine (CSm.out _).mono ?_; rintro e u5 ⟨rfl, hb⟩; have HB5 := hid hb; have GT5 := hid (row_on GT4.out hb); clear hb) | (refine wpList_store_row (by rfl) 40 (.tmp 14) (.tmp 131) (by rfl) t14 #[.int .u64 (hiW (tt + bx)), .int .u64 (loW (tt + bx))] (by rfl) (by rfl) 40 _ GT5.out infoM (by rfl) (by simp [Value.oneCell']) ?_))
              go_roundw
              case rel =>
                refine ⟨i + 1, by have := HIA.out; omega, by go_num, hid ?_, hid ?_⟩
                · exact ((OKY.out wr HKZ.out).trans (Kp.of (fun j => j = t14) (btr BQ.out (btr HB4.out HB5.out))) (fun _ _ h => h)).trans (setRow_kp _ _ _) (fun _ _ h => h)
                · rw [HTS.out]; exact setRow_heap _ _ _ _ 40 (0, 0) GT5.out
              case measure => simp [intOf]; omega
        · have ei : i = na := by omega
          have HGT2 := hid (show wr.heap[t14]? = some (.cells #[.int .u64 (hiW 0), .int .u64 (loW 0)] 40 (0, 0)) from by have h9 := HGT.out; rw [List.take_of_length_le (by rw [HNA.out]; omega)] at h9; have h8 := HDB.out.sum HMB.out; rw [show (fun x => (s.f x).getD 0) = bal s.es from funext HDB.out.b] at h8; rw [h8] at h9; exact h9)
          clear HGT
          subst ei
          have HW0 := hid (OKX.out wr HKY.out)
          have CSg := hid (show ∀ U, Calls Try.prog 16 #[mv 0] U fun e w' => e = .returned (.int .i64 0) ∧ Below U.heap.size U w' from fun U => sign_any 0 U amt0)
          unfold mv at CSg
          obtain ⟨Wl, hWl⟩ : ∃ V, V = wr := ⟨_, rfl⟩
          subst hWl
          go_upto_region 31 with fail
          go_loopw [19] (fun kv wr => ∃ k, k ≤ ne ∧ kv = .int .i64 (k : Nat) ∧ Hid (Below Wl.heap.size Wl wr)) (fun kv _ => ne - (intOf kv).toNat)
          case atStart => exact ⟨0, by omega, rfl, Below.refl _ _⟩
          case round =>
            obtain ⟨k, hkn, rfl, HBL⟩ := hrel
            by_cases hlk : k < ne
            · have hk2 : k < s.es.length := by rw [HNE.out]; exact hlk
              obtain ⟨b6, o6, eq6, hcl⟩ := HEZ.out k hk2
              subst eq6
              have hen := HDB.out.en _ (List.getElem_mem hk2)
              obtain ⟨y, hy⟩ : ∃ y, s.es[k] = y := ⟨_, rfl⟩
              rw [hy] at hcl hen
              obtain ⟨fm, fk, tm9, tk9, am⟩ := y
              dsimp only at hcl
              have HCL := hid (show ∀ U, Below wr.heap.size wr U → _ from fun U hU => hcl U (btr HW0.out (btr HBL.out hU)))
              have CSg2 := hid (show ∀ U, Calls Try.prog 16 #[mv am] U fun e w' => e = .returned (.int .i64 1) ∧ Below U.heap.size U w' from fun U => by have h1 := hen.pos; have h2 := hen.le; dsimp only at h1 h2; have h9 := sign_any am U (by unfold Amt; omega); rw [sgn_pos h1] at h9; exact h9)
              have e2 : (fk == 2) = false := by rcases hen.fr with h | ⟨h, _⟩; have h9 := congrArg Prod.snd h; dsimp only at h9; rw [h9]; rfl; dsimp only at h; rw [h]; rfl
              unfold mv at CSg2
              obtain ⟨f0, f1, f2, f3, f4, f5⟩ := HCL.out wr (Below.refl _ _)
              clear hcl hen hy
              have k0 : (0 : Int) ≤ (k : Int) := by omega
              have k1 : (k : Int) < (ne : Int) := by omega
              go_wp2_with (go_at_call 16; with_reducible refine (CSg2.out _).mono ?_; rintro e u6 ⟨rfl, hb⟩; obtain ⟨q0, q1, q2, q3, q4, q5⟩ := HCL.out u6 hb; have HB6 := hid (btr HBL.out hb); clear hb)
              go_roundw
              case rel => exact ⟨k + 1, hlk, by go_num, HB6⟩
              case measure => simp [intOf]; omega
            · obtain rfl : k = ne := by omega
              have GTE := hid (row_on HGT2.out HBL.out)
              have r0 := row_cell GTE.out 0
              have r1 := row_cell GTE.out 1
              simp only [lqA, lqB, lqC] at r0 r1
              go_wp2_with (go_at_call 16; with_reducible refine (CSg.out _).mono ?_; rintro e u7 ⟨rfl, hb⟩; have HB7 := hid hb; clear hb)
              go_ret
              exact ⟨rfl, btr NX.out.below (btr HW0.out (btr HBL.out HB7.out))⟩
end Go.Proofs.Ytphhllppgelceaa.Ac
