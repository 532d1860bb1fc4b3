/-
  AccountsApart: the walk.
-/
import Derived.Test.YtphhllppgelceaaGl
namespace Go.Proofs.Ytphhllppgelceaa.Ac
open List renaming getElem_toArray → lgA, getElem_cons_succ → lgB, getElem_cons_zero → lgC, setIfInBounds_toArray → lsA, set_cons_zero → lsB, set_cons_succ → lsC
open Go.RowKit Go.Deep Go.Maps Go.Proofs.Ytphhllppgelceaa.MonM
set_option linter.unusedVariables false
set_option linter.unusedSimpArgs false
set_option maxHeartbeats 8000000
set_option maxRecDepth 100000
attribute [local go_sem ↓] Go.wp_at_zero Go.wp_at_succ
theorem uz_own {base : Nat} {w : World} {q : Option Addr} {n c : Nat} {l : List Int} (hn : l.length = n) (h : w.ownsRow base 22 1 (.slice q n c) n (Sr.ivs l)) : Uz w q l := by
  intro i hi
  obtain ⟨h1, ⟨e', e2⟩ | ⟨g, c', cur, e', r1, r2, r3, r4, r5, r6⟩⟩ := id h
  · omega
  · obtain ⟨rfl, _, rfl⟩ := Value.slice.inj e'
    have hc := (own_cells h).2
    refine ⟨g, 0, rfl, row_lt r2, ?_⟩
    have := hc i (.int .u32 l[i]) (by unfold Sr.ivs; rw [List.getElem?_map, List.getElem?_eq_getElem hi]; rfl)
    rw [Addr.add_lit] at this
    exact this
theorem uz_at2 {w : World} {q : Option Addr} {l : List Int} (h : Uz w q l) {i : Nat} (hi : i < l.length) : ∃ b off, q = some ⟨b, off, none⟩ ∧ ∀ U, Below w.heap.size w U → U.cell? ⟨b, off + i, none⟩ = some (.int .u32 l[i]) := by
  obtain ⟨b, off, e, hb, hc⟩ := h i hi
  exact ⟨b, off, e, fun U hU => by rw [hU.cell (p := ⟨b, off + i, none⟩) hb]; exact hc⟩
theorem nl_down {w U W : World} {G k : Nat} {s : Ls} (hb : Below w.heap.size w U) (h : Nl U W G k s) : Nl w W G k s := by
  obtain ⟨O, a1, a2, a3⟩ := h
  exact ⟨O, a1, btr hb a2, fun b hb' => Nat.le_trans hb.size (a3 b hb')⟩
theorem mem_snoc_dec {I : List Int} {it x : Int} (h : it ∉ I) : decide (it ∈ I ++ [x]) = (x == it) := by
  by_cases e : x = it
  · subst e
    simp
  · rw [decide_eq_false (by
      intro h2
      rcases List.mem_append.1 h2 with h2 | h2
      · exact h h2
      · simp at h2
        exact e h2.symm)]
    simp [e]
theorem app_at {w : World} {ops : Array Oper} {rest : List Oper} {oo : Oper} {a : Act} {Q : Exit → Act → World → Prop} (hgd : oo.guard = none) (s x : Operand)
    (ho : oo.op = .call { callee := .builtin .append, args := #[s, x], argTypes := #[25, 25] })
    (base : Nat) (v : Value) (n : Nat) (ys : List Value) (hs : a.eval s = v) (hown : w.ownsRow base 22 1 v n ys)
    (g : Nat) (y : Int) (hx : a.eval x = .slice (some ⟨g, 0, none⟩) 1 1) (hg : w.cell? ⟨g, 0, none⟩ = some (.int .u32 y))
    (hn : n ≤ 1000000000000) (hbase : base ≤ w.heap.size)
    (h : ∀ g' c' w', w'.ownsRow base 22 1 (.slice (some ⟨g', 0, none⟩) (n + 1) c') (n + 1) (ys ++ [.int .u32 y]) → w.grownBy w' v.ownBlock → (v.ownBlock = some g' ∨ g' = w.heap.size) → g' < w'.heap.size → wpList Try.prog ops Q rest (a.put oo.dst (.slice (some ⟨g', 0, none⟩) (n + 1) c')) w') : wpList Try.prog ops Q (oo :: rest) a w := by
  obtain ⟨i0, hi, hz0, hz1, hz2⟩ : ∃ i0, Try.prog.info? 22 = some i0 ∧ i0.zero = some (.int .u32 0) ∧ i0.size = 1 ∧ i0.bytes = 4 := by
    have := Sr.infoU
    cases hh : Try.prog.info? 22 with
    | none => rw [hh] at this; cases this
    | some i => rw [hh] at this; simp at this; exact ⟨i, rfl, this.1, this.2.1, this.2.2⟩
  exact wpList_append_lies _ hgd s x 25 ho base 22 i0 _ 1 4 Try.underlying25 hi hz0 hz1 hz2 rfl (by decide) v n ys hs hown ⟨g, 0, none⟩ 1 1 [.int .u32 y] hx rfl (fun j u hj => by
    cases j with
    | zero => simp at hj; subst hj; exact hg
    | succ j => simp at hj) (by intro u hu; simp at hu; subst hu; rfl) (by decide) (by unfold maxLen; omega) (by omega) hbase _ rfl h
theorem flt_cons_len (i : Int) (d : De) (l : List De) : ((flt i (d :: l)).length : Int) = (if d.it = i then 1 else 0) + (flt i l).length := by
  by_cases e : d.it = i
  · have : flt i (d :: l) = d :: flt i l := by unfold flt; rw [List.filter_cons_of_pos (by simpa using e)]
    rw [this, if_pos e, List.length_cons]
    omega
  · have : flt i (d :: l) = flt i l := by unfold flt; rw [List.filter_cons_of_neg (by simpa using e)]
    rw [this, if_neg e]
    omega
theorem ord_tot (J : List Int) (l : List De) : ((ord J l).length : Int) = tot J (fun i => (flt i l).length) := by
  induction J with
  | nil => rfl
  | cons j J ih =>
    have e : ord (j :: J) l = flt j l ++ ord J l := by unfold ord; rw [List.flatMap_cons]
    rw [e, List.length_append, tot_cons, ← ih]
    omega
theorem ord_len {J : List Int} (hn : J.Nodup) (l : List De) : (ord J l).length ≤ l.length := by
  have key : tot J (fun i => ((flt i l).length : Int)) ≤ l.length := by
    induction l with
    | nil =>
      show tot J (fun _ => 0) ≤ 0
      rw [tot_zero]
      exact Int.le_refl _
    | cons d l ih =>
      rw [show (fun i => ((flt i (d :: l)).length : Int)) = (fun i => (if d.it = i then 1 else 0) + ((flt i l).length : Int)) from funext (fun i => flt_cons_len i d l), tot_add, List.length_cons]
      by_cases h : d.it ∈ J
      · rw [tot_one hn h]
        omega
      · rw [tot_none h]
        omega
  have := ord_tot J l
  omega
/-- how many deals stand booked on the second ledger. -/
theorem ord_len2 {J : List Int} {x : Int} (hn : (J ++ [x]).Nodup) (l : List De) (i : Nat) : (ord J l ++ flt x (l.take i)).length ≤ l.length := by
  have h1 := ord_len hn l
  rw [ord_snoc] at h1
  have h2 : (flt x (l.take i)).length ≤ (flt x l).length := ((List.take_sublist i l).filter _).length_le
  rw [List.length_append] at h1 ⊢
  omega
theorem en1_len (a b : Int × Int) (v : Int) : (en1 a b v).length ≤ 1 := by unfold en1; split <;> simp
theorem stp_len (s : Ls) (d : De) : (stp s d).es.length ≤ s.es.length + 3 := by
  unfold stp
  by_cases ha : Acc s d
  · rw [if_pos ha, (bkd_all s d _ _ ha.1).1, List.length_append]
    unfold ens
    rw [List.length_append, List.length_append]
    have h1 := en1_len (d.bu, 1) (d.se, 1) (d.pr * d.qt)
    have h2 := en1_len (d.bu, 1) (0, 2) (fee s (d.pr * d.qt) (d.ta == 1))
    have h3 := en1_len (d.se, 1) (0, 2) (fee s (d.pr * d.qt) (d.ta == 2))
    omega
  · rw [if_neg ha]
    omega
theorem Tf.stp {s : Ls} {d : De} (h : Tf s) : Tf (stp s d) := by
  unfold Ac.stp
  by_cases ha : Acc s d
  · rw [if_pos ha]
    obtain ⟨_, a1, a2, a3, _, _⟩ := bkd_all s d (bkA s d) (bkC s d) ha.1
    exact ⟨by rw [a1]; exact h.m0, by rw [a1, a3]; exact h.mb, by rw [a2]; exact h.t0, by rw [a2, a3]; exact h.tb, by rw [a3]; exact h.b0, by rw [a3]; exact h.b1⟩
  · rw [if_neg ha]
    exact h
theorem run_db : ∀ (l : List De) (s : Ls), Db s → Tf s → (∀ d ∈ l, DeOk d) → s.es.length + 3 * l.length ≤ 900000000000 → Db (run s l)
  | [], s, h, _, _, _ => h
  | d :: l, s, h, ht, hd, hl => by
    rw [List.length_cons] at hl
    have h3 := stp_len s d
    exact run_db l (stp s d) (h.stp (hd d List.mem_cons_self) ht (by omega)) ht.stp (fun x hx => hd x (List.mem_cons_of_mem _ hx)) (by omega)
theorem apart_fin {l : List De} {s t : Ls} (h : ∀ i, Sm i s t) (es : s.es = []) (et : t.es = []) (ds : Db s) (dt : Db t) (ts : Tf s) (tt : Tf t) (hl : ∀ d ∈ l, DeOk d) (n : l.length ≤ 1048576) :
    (∀ x, ((run s l).f x).getD 0 = ((run t (ord (ins l).reverse l)).f x).getD 0) ∧ (∀ i, i ∈ ins l → ∀ m, (run s l).g m i = (run t (ord (ins l).reverse l)).g m i) ∧ (run s l).es.length = (run t (ord (ins l).reverse l)).es.length := by
  have hn : (ins l).reverse.Nodup := (List.reverse_perm (ins l)).nodup_iff.2 (ins_nd l)
  have h1 := ord_len hn l
  refine apart_end h (es.trans et.symm) (run_db l s ds ts hl (by rw [es]; simp; omega)) (run_db _ t dt tt (fun d hd => ?_) (by rw [et]; simp; omega))
  obtain ⟨i, _, hd⟩ := List.mem_flatMap.1 hd
  exact hl d (List.mem_filter.1 hd).1
theorem nl_amt {w W : World} {G k : Nat} {s : Ls} (h : Nl w W G k s) (x : Int × Int) : Amt ((s.f x).getD 0) := by
  obtain ⟨O, ⟨B, P, p, c, hx⟩, _, _⟩ := h
  cases e : s.f x with
  | none => exact amt0
  | some y => exact hx.amt _ _ e
theorem nl_tf {w W : World} {G k : Nat} {s : Ls} (h : Nl w W G k s) : Tf s := by
  obtain ⟨O, ⟨B, P, p, c, hx⟩, _, _⟩ := h
  exact hx.tf
theorem nl_gok {w W : World} {G k : Nat} {s : Ls} (h : Nl w W G k s) (m i : Int) : PoOk (s.g m i) := by
  obtain ⟨O, ⟨B, P, p, c, hx⟩, _, _⟩ := h
  exact (hx.gok m i).1
theorem cmp_self (v : Int) : cmp3 v v = 0 := by unfold cmp3; rw [if_neg (by omega), if_neg (by omega)]
theorem po_cells {W : World} {g : Nat} {p : Po} (h : W.heap[g]? = some (.cells #[.int .i64 p.qt, .int .u64 (hiW p.co), .int .u64 (loW p.co), .int .u64 (hiW p.ga), .int .u64 (loW p.ga)] 55 (0, 0))) : W.cell? ⟨g, 0, none⟩ = some (.int .i64 p.qt) ∧ W.cell? ⟨g, 1, none⟩ = some (.int .u64 (hiW p.co)) ∧ W.cell? ⟨g, 2, none⟩ = some (.int .u64 (loW p.co)) ∧ W.cell? ⟨g, 3, none⟩ = some (.int .u64 (hiW p.ga)) ∧ W.cell? ⟨g, 4, none⟩ = some (.int .u64 (loW p.ga)) :=
  ⟨row_cell h 0, row_cell h 1, row_cell h 2, row_cell h 3, row_cell h 4⟩
/-- the blocks of a slice. -/
def Fs (v : Value) (b : Nat) : Prop := v.ownBlock = some b
theorem apart_ok (ma ta bb : Int) (q : Option Addr) (c : Nat) (us : List Int) (q2 : Option Addr) (c2 : Nat) (l : List De) (w : World) (h0 : 0 ≤ ma) (h1 : 0 ≤ ta) (h2 : 0 < bb) (h3 : ma ≤ bb) (h4 : ta ≤ bb) (h5 : bb < 4294967296) (hu : Uz w q us) (hus : ∀ x ∈ us, U32 x) (hum : us.length ≤ 1048576) (hd : Dz w q2 l) (hdl : ∀ x ∈ l, DeOk x) (hm : l.length ≤ 1048576) :
    Calls Try.prog 5 #[.agg #[.int .u32 ma, .int .u32 ta, .int .u32 bb], .slice q us.length c, .slice q2 l.length c2] w fun e w' => e = .returned (.bool true) ∧ Below w.heap.size w w' := by
  obtain ⟨Wa, hWa⟩ : ∃ W, w.alloc (.cells #[.int .u32 ma, .int .u32 ta, .int .u32 bb] 24) = W := ⟨_, rfl⟩
  have HBA := hid (show Below w.heap.size w Wa from by rw [← hWa]; exact ball _ _)
  have HRA := hid (show Wa.heap[w.heap.size]? = some (.cells #[.int .u32 ma, .int .u32 ta, .int .u32 bb] 24 (0, 0)) from by rw [← hWa]; exact World.alloc_heap_new _ _)
  have C := hid (show ∀ U, Below w.heap.size w U → Calls Try.prog 7 #[.agg #[.int .u32 ma, .int .u32 ta, .int .u32 bb], .slice q us.length c] U fun e w' => ∃ G s, e = .returned (.pointer (some ⟨G, 0, none⟩)) ∧ Hid (Nl U w' G us.length s) ∧ Hid (Nw s ma ta bb) ∧ Hid (Dm s us) ∧ Hid (Below U.heap.size U w') from fun U hU => (opened_d ma ta bb q c us U h0 h1 h2 h3 h4 h5 (fun i hi => by
    obtain ⟨b, off, e, hb, hc⟩ := hu i hi
    exact ⟨b, off, e, Nat.lt_of_lt_of_le hb hU.size, by rw [hU.cell (p := ⟨b, off + i, none⟩) hb]; exact hc⟩) hus hum).mono (fun e w' ⟨G, s, a1, a2, a3, a4⟩ => ⟨G, s, a1, a2, a3, a4, a2.below⟩))
  have CL := hid lives_ok
  have HWa := hid hWa
  obtain ⟨K, hK⟩ : ∃ n, us.length = n := ⟨_, rfl⟩
  rw [hK] at C hum ⊢
  obtain ⟨n, hn⟩ : ∃ n, l.length = n := ⟨_, rfl⟩
  have HN := hid hn
  have HD := hid hd
  have HDL := hid hdl
  have HMM := hid (And.intro hum hm)
  rw [hn] at hm HMM ⊢
  clear hWa h0 h1 h2 h3 h4 h5 hu hus hd hdl hn hK hum
  obtain ⟨R0, hR0⟩ : ∃ t, w.heap.size = t := ⟨_, rfl⟩
  rw [hR0] at HRA
  have HR0 := hid hR0
  clear hR0
  have pq := ptr_nil
  go_enter Try.func5, Try.ntmps5
  go_upto_region 1 with fail
  rw [HWa.out, HR0.out]
  go_upto_region 3 with (go_at_call 6; with_reducible refine (CL.out _).mono ?_; rintro e w1 ⟨rfl, hb⟩; have HB1 := hid (btr HBA.out hb); have HR1 := hid (row_on HRA.out hb); clear hb)
  obtain ⟨V1, hV1⟩ : ∃ U, w1.drew = U := ⟨_, rfl⟩
  have BV1 := hid (show Below w1.heap.size w1 V1 from by rw [← hV1]; exact bdrew1 _)
  have r2 := hid (row_on HR1.out BV1.out)
  refine wp_region_held_drew (S := fun U => U.cell? ⟨R0, 0, none⟩ = some (.int .u32 ma) ∧ U.cell? ⟨R0, 1, none⟩ = some (.int .u32 ta) ∧ U.cell? ⟨R0, 2, none⟩ = some (.int .u32 bb)) (by kernel_rfl) ?_ (fun hHeld => ?_)
  · (try dsimp only); rw [hV1]; exact ⟨row_cell r2.out 0, row_cell r2.out 1, row_cell r2.out 2⟩
  rw [hV1] at hHeld ⊢
  clear hV1
  refine' wpAnyH_take (i := 0) rfl (by kernel_rfl) (by kernel_rfl) (by kernel_rfl) (fun _ _ _ h => h) (Or.inl ⟨by kernel_rfl, ?_⟩) (by assumption) ?_
  rotate_left
  · (intro w hSw; (try dsimp only at hSw); go_simp; try (with_reducible rfl))
  try simp only [lgA, lgB, lgC, Act.put, lsA, lsB, lsC]
  refine' wpAnyH_take (i := 1) rfl (by kernel_rfl) (by kernel_rfl) (by kernel_rfl) (fun _ _ _ h => h) (Or.inl ⟨by kernel_rfl, ?_⟩) (by assumption) ?_
  rotate_left
  · (intro w hSw; (try dsimp only at hSw); go_simp; try (with_reducible rfl))
  try simp only [lgA, lgB, lgC, Act.put, lsA, lsB, lsC]
  refine' wpAnyH_take (i := 3) rfl (by kernel_rfl) (by kernel_rfl) (by kernel_rfl) (fun _ _ _ h => h) (Or.inl ⟨by kernel_rfl, ?_⟩) (by assumption) ?_
  rotate_left
  · (intro w hSw; (try dsimp only at hSw); go_simp; try (with_reducible rfl))
  try simp only [lgA, lgB, lgC, Act.put, lsA, lsB, lsC]
  refine' wpAnyH_take (i := 4) rfl (by kernel_rfl) (by kernel_rfl) (by kernel_rfl) (fun _ _ _ h => h) (Or.inl ⟨by kernel_rfl, ?_⟩) (by assumption) ?_
  rotate_left
  · (intro w hSw; (try dsimp only at hSw); go_simp; try (with_reducible rfl))
  try simp only [lgA, lgB, lgC, Act.put, lsA, lsB, lsC]
  refine wpAnyH_ready (rs := [2]) (by kernel_rfl) (by simp) ?_
  refine (AllReadyH.cons rfl (fun K hK => ?_) AllReadyH.nil)
  go_simp
  go_at_call 7
  with_reducible refine (C.out V1 (btr HB1.out BV1.out)).mono ?_
  rintro e X3 ⟨Ga, sa, rfl, NA, WA, DA, DbX3⟩
  have r4 := hid (row_on r2.out DbX3.out)
  have DX3 := hid (btr BV1.out DbX3.out)
  (try go_wp2_with fail)
  refine hK.out _ _ ?_ (fun hHeld => ?_)
  · (try dsimp only); exact ⟨row_cell r4.out 0, row_cell r4.out 1, row_cell r4.out 2⟩
  clear hK K
  try simp only [lgA, lgB, lgC, Act.put, lsA, lsB, lsC]
  refine wpAnyH_ready (rs := [5]) (by kernel_rfl) (by simp) ?_
  refine (AllReadyH.cons rfl (fun K hK => ?_) AllReadyH.nil)
  go_simp
  go_at_call 7
  with_reducible refine (C.out X3 (btr HB1.out DX3.out)).mono ?_
  rintro e X5 ⟨Gb, sb, rfl, NB, WB, DB, DbX5⟩
  have r6 := hid (row_on r4.out DbX5.out)
  have DX5 := hid (btr DX3.out DbX5.out)
  (try go_wp2_with fail)
  refine hK.out _ _ ?_ (fun hHeld => ?_)
  · (try dsimp only); exact ⟨row_cell r6.out 0, row_cell r6.out 1, row_cell r6.out 2⟩
  clear hK K
  try simp only [lgA, lgB, lgC, Act.put, lsA, lsB, lsC]
  refine' wpAnyH_take (i := 6) rfl (by kernel_rfl) (by kernel_rfl) (by kernel_rfl) (fun _ _ _ h => h) (Or.inl ⟨by kernel_rfl, ?_⟩) (by assumption) ?_
  rotate_left
  · (intro w hSw; (try dsimp only at hSw); go_simp; try (with_reducible rfl))
  try simp only [lgA, lgB, lgC, Act.put, lsA, lsB, lsC]
  refine' wpAnyH_take (i := 7) rfl (by kernel_rfl) (by kernel_rfl) (by kernel_rfl) (fun _ _ _ h => h) (Or.inl ⟨by kernel_rfl, ?_⟩) (by assumption) ?_
  rotate_left
  · (intro w hSw; (try dsimp only at hSw); go_simp; try (with_reducible rfl))
  try simp only [lgA, lgB, lgC, Act.put, lsA, lsB, lsC]
  refine wpAnyH_done (by kernel_rfl) ?_ _
  have HT0 := hid (show Tw w X5 (Fs (.slice none 0 0)) Ga Gb (K + 13 * 0) K (run sa (l.take 0)) sb from (Tw.open (nl_down (btr HB1.out BV1.out) NA.out) NB.out).grow (Kp.refl _ _) (fun b hb => hb.elim) (fun b hb => by cases hb) (fun b hb => by cases hb))
  have HFI := hid (apart_fin (l := l) (WA.out.sm WB.out DA.out DB.out).1 WA.out.es WB.out.es WA.out.db WB.out.db (nl_tf NA.out) (nl_tf NB.out) HDL.out (by rw [HN.out]; exact hm))
  clear NA NB WA WB DA DB C CL HWa HRA HR1
  go_upto_region 8 with fail
  go_loopw [9, 10] (fun av iv wr => ∃ i pa na ca, i ≤ n ∧ iv = .int .i64 (i : Nat) ∧ av = .slice pa na ca ∧ Hid ((ins (l.take i)).length = na) ∧ Hid (wr.ownsRow w.heap.size 22 1 (.slice pa na ca) na (Sr.ivs (ins (l.take i)))) ∧ Hid (Tw w wr (Fs (.slice pa na ca)) Ga Gb (K + 13 * i) K (run sa (l.take i)) sb)) (fun _ iv _ => n - (intOf iv).toNat)
  case atStart => exact ⟨0, none, 0, 0, by omega, rfl, rfl, rfl, own_nil _ _ _ _, HT0⟩
  case round =>
   obtain ⟨i, pa, na, ca, hin, rfl, rfl, HNA, HO, HT⟩ := hrel
   clear HT0
   by_cases hlt : i < n
   · have hi : i < l.length := by rw [HN.out]; exact hlt
     obtain ⟨b, off, eq, hcl⟩ := HD.out.at hi
     subst eq
     have hz := HDL.out _ (List.getElem_mem hi)
     have htk := take_snoc hi
     obtain ⟨z, hz0⟩ : ∃ z, l[i] = z := ⟨_, rfl⟩
     rw [hz0] at hcl hz htk
     have HTK := hid htk
     obtain ⟨it, bu, se, ta9, pr, qt⟩ := z
     dsimp only at hcl
     have HCL := hid hcl
     have HZ := hid hz
     clear hz hz0 hcl htk
     obtain ⟨a0, a1, a2, a3, a4, a5⟩ := HCL.out wr HT.out.below
     have i0 : (0 : Int) ≤ (i : Int) := by omega
     have i1 : (i : Int) < (n : Int) := by omega
     have CB := hid (show Calls Try.prog 17 #[.pointer (some ⟨Ga, 0, none⟩), .agg #[.int .u32 it, .int .u32 bu, .int .u32 se, .int .i64 ta9, .int .i64 pr, .int .u64 qt]] wr _ from tw_book_a HT.out ⟨it, bu, se, ta9, pr, qt⟩ HZ.out (by have := HMM.out; omega))
     go_upto_region 13 with (go_at_call 17; with_reducible refine CB.out.mono ?_; rintro e W2 ⟨r, rfl, z1, z2⟩; have HT2 := hid z1; have HF2 := hid z2; clear z1 z2)
     clear a0 a1 a2 a3 a4 a5 CB
     have HO2 := hid (own_same HO.out (fun g hg => HF2.out g hg))
     have HUZ := hid (uz_own HNA.out HO2.out)
     have HW2 := hid HT2.out.below
     have htl : (l.take i).length ≤ l.length := by rw [List.length_take]; omega
     have hna : na ≤ 1048576 := by rw [← HNA.out]; have h1 := ins_len (l.take i); have h3 := HN.out; have h4 := HMM.out; omega
     clear htl
     obtain ⟨I, hI⟩ : ∃ I, ins (l.take i) = I := ⟨_, rfl⟩
     rw [hI] at HNA HO2 HUZ
     have HI := hid hI
     clear hI
     go_loopw [11, 12] (fun bv kv wr => ∃ k, k ≤ na ∧ kv = .int .i64 (k : Nat) ∧ bv = .bool (decide (it ∈ I.take k)) ∧ Hid (Below W2.heap.size W2 wr)) (fun _ kv _ => na - (intOf kv).toNat)
     case atStart => exact ⟨0, by omega, rfl, by simp, Below.refl _ _⟩
     case round =>
      obtain ⟨k, hkn, rfl, rfl, HBK⟩ := hrel
      by_cases hlk : k < na
      · have hk2 : k < I.length := by rw [HNA.out]; exact hlk
        obtain ⟨b6, o6, eq6, hc6⟩ := uz_at2 HUZ.out hk2
        subst eq6
        have htk := take_snoc hk2
        obtain ⟨x, hx⟩ : ∃ x, I[k] = x := ⟨_, rfl⟩
        rw [hx] at hc6 htk
        have HC6 := hid hc6
        have HTK2 := hid htk
        clear hc6 htk hx
        have k0 : (0 : Int) ≤ (k : Int) := by omega
        have k1 : (k : Int) < (na : Int) := by omega
        have F0 := hid (show ∀ U, Below W2.heap.size W2 U → U.cell? ⟨b6, o6 + k, none⟩ = some (.int .u32 x) from HC6.out)
        have F1 := hid (show ∀ U, Below W2.heap.size W2 U → U.cell? ⟨b, off + i * 6, none⟩ = some (.int .u32 it) from fun U hU => (HCL.out U (btr HW2.out hU)).1)
        by_cases hm : it ∈ I.take k
        · have e1 : decide (it ∈ I.take k) = true := decide_eq_true hm
          rw [e1]
          go_upto_region 15 with fail
          obtain ⟨V7, hV7⟩ : ∃ U, wr.drew = U := ⟨_, rfl⟩
          have DV7 := hid (show Below wr.heap.size wr V7 from by rw [← hV7]; exact bdrew1 _)
          have BV7 := hid (btr (HBK.out) DV7.out)
          refine wp_region_held_drew (S := fun U => U.cell? ⟨b6, o6 + k, none⟩ = some (.int .u32 x) ∧ U.cell? ⟨b, off + i * 6, none⟩ = some (.int .u32 it)) (by kernel_rfl) ?_ (fun hHeld => ?_)
          · (try dsimp only); rw [hV7]; exact ⟨F0.out _ BV7.out, F1.out _ BV7.out⟩
          rw [hV7] at hHeld ⊢
          clear hV7
          refine' wpAnyH_take (i := 0) rfl (by kernel_rfl) (by kernel_rfl) (by kernel_rfl) (fun _ _ _ h => h) (Or.inl ⟨by kernel_rfl, ?_⟩) (by assumption) ?_
          rotate_left
          · (intro w hSw; (try dsimp only at hSw); go_simp; try (with_reducible rfl))
          try simp only [lgA, lgB, lgC, Act.put, lsA, lsB, lsC]
          refine' wpAnyH_take (i := 1) rfl (by kernel_rfl) (by kernel_rfl) (by kernel_rfl) (fun _ _ _ h => h) (Or.inl ⟨by kernel_rfl, ?_⟩) (by assumption) ?_
          rotate_left
          · (intro w hSw; (try dsimp only at hSw); go_simp; try (with_reducible rfl))
          try simp only [lgA, lgB, lgC, Act.put, lsA, lsB, lsC]
          refine' wpAnyH_take (i := 2) (v := undef) rfl (by kernel_rfl) (by kernel_rfl) (by kernel_rfl) (fun _ _ _ h => h) (Or.inr ⟨by kernel_rfl, rfl⟩) (by assumption) ?_
          try simp only [lgA, lgB, lgC, Act.put, lsA, lsB, lsC]
          refine' wpAnyH_take (i := 3) (v := undef) rfl (by kernel_rfl) (by kernel_rfl) (by kernel_rfl) (fun _ _ _ h => h) (Or.inr ⟨by kernel_rfl, rfl⟩) (by assumption) ?_
          try simp only [lgA, lgB, lgC, Act.put, lsA, lsB, lsC]
          refine' wpAnyH_take (i := 4) (v := undef) rfl (by kernel_rfl) (by kernel_rfl) (by kernel_rfl) (fun _ _ _ h => h) (Or.inr ⟨by kernel_rfl, rfl⟩) (by assumption) ?_
          try simp only [lgA, lgB, lgC, Act.put, lsA, lsB, lsC]
          refine' wpAnyH_take (i := 5) (v := undef) rfl (by kernel_rfl) (by kernel_rfl) (by kernel_rfl) (fun _ _ _ h => h) (Or.inr ⟨by kernel_rfl, rfl⟩) (by assumption) ?_
          try simp only [lgA, lgB, lgC, Act.put, lsA, lsB, lsC]
          refine' wpAnyH_take (i := 6) (v := undef) rfl (by kernel_rfl) (by kernel_rfl) (by kernel_rfl) (fun _ _ _ h => h) (Or.inr ⟨by kernel_rfl, rfl⟩) (by assumption) ?_
          try simp only [lgA, lgB, lgC, Act.put, lsA, lsB, lsC]
          refine' wpAnyH_take (i := 7) (v := undef) rfl (by kernel_rfl) (by kernel_rfl) (by kernel_rfl) (fun _ _ _ h => h) (Or.inr ⟨by kernel_rfl, rfl⟩) (by assumption) ?_
          try simp only [lgA, lgB, lgC, Act.put, lsA, lsB, lsC]
          refine' wpAnyH_take (i := 8) (v := undef) rfl (by kernel_rfl) (by kernel_rfl) (by kernel_rfl) (fun _ _ _ h => h) (Or.inr ⟨by kernel_rfl, rfl⟩) (by assumption) ?_
          try simp only [lgA, lgB, lgC, Act.put, lsA, lsB, lsC]
          refine' wpAnyH_take (i := 9) (v := undef) rfl (by kernel_rfl) (by kernel_rfl) (by kernel_rfl) (fun _ _ _ h => h) (Or.inr ⟨by kernel_rfl, rfl⟩) (by assumption) ?_
          try simp only [lgA, lgB, lgC, Act.put, lsA, lsB, lsC]
          refine' wpAnyH_take (i := 10) (v := undef) rfl (by kernel_rfl) (by kernel_rfl) (by kernel_rfl) (fun _ _ _ h => h) (Or.inr ⟨by kernel_rfl, rfl⟩) (by assumption) ?_
          try simp only [lgA, lgB, lgC, Act.put, lsA, lsB, lsC]
          refine' wpAnyH_take (i := 11) (v := undef) rfl (by kernel_rfl) (by kernel_rfl) (by kernel_rfl) (fun _ _ _ h => h) (Or.inr ⟨by kernel_rfl, rfl⟩) (by assumption) ?_
          try simp only [lgA, lgB, lgC, Act.put, lsA, lsB, lsC]
          refine' wpAnyH_take (i := 12) rfl (by kernel_rfl) (by kernel_rfl) (by kernel_rfl) (fun _ _ _ h => h) (Or.inl ⟨by kernel_rfl, ?_⟩) (by assumption) ?_
          rotate_left
          · (intro w hSw; (try dsimp only at hSw); go_simp; try (with_reducible rfl))
          try simp only [lgA, lgB, lgC, Act.put, lsA, lsB, lsC]
          refine' wpAnyH_take (i := 13) rfl (by kernel_rfl) (by kernel_rfl) (by kernel_rfl) (fun _ _ _ h => h) (Or.inl ⟨by kernel_rfl, ?_⟩) (by assumption) ?_
          rotate_left
          · (intro w hSw; (try dsimp only at hSw); go_simp; try (with_reducible rfl))
          try simp only [lgA, lgB, lgC, Act.put, lsA, lsB, lsC]
          refine wpAnyH_done (by kernel_rfl) ?_ _
          go_wp2
          go_roundw
          case rel => exact ⟨k + 1, hlk, by go_num, by rw [HTK2.out]; congr 1; exact (decide_eq_true (List.mem_append_left _ hm)).symm, BV7⟩
          case measure => simp [intOf]; omega
        · have e1 : decide (it ∈ I.take k) = false := decide_eq_false hm
          rw [e1]
          go_upto_region 15 with fail
          obtain ⟨V8, hV8⟩ : ∃ U, wr.drew = U := ⟨_, rfl⟩
          have DV8 := hid (show Below wr.heap.size wr V8 from by rw [← hV8]; exact bdrew1 _)
          have BV8 := hid (btr (HBK.out) DV8.out)
          refine wp_region_held_drew (S := fun U => U.cell? ⟨b6, o6 + k, none⟩ = some (.int .u32 x) ∧ U.cell? ⟨b, off + i * 6, none⟩ = some (.int .u32 it)) (by kernel_rfl) ?_ (fun hHeld => ?_)
          · (try dsimp only); rw [hV8]; exact ⟨F0.out _ BV8.out, F1.out _ BV8.out⟩
          rw [hV8] at hHeld ⊢
          clear hV8
          refine' wpAnyH_take (i := 0) rfl (by kernel_rfl) (by kernel_rfl) (by kernel_rfl) (fun _ _ _ h => h) (Or.inl ⟨by kernel_rfl, ?_⟩) (by assumption) ?_
          rotate_left
          · (intro w hSw; (try dsimp only at hSw); go_simp; try (with_reducible rfl))
          try simp only [lgA, lgB, lgC, Act.put, lsA, lsB, lsC]
          refine' wpAnyH_take (i := 1) rfl (by kernel_rfl) (by kernel_rfl) (by kernel_rfl) (fun _ _ _ h => h) (Or.inl ⟨by kernel_rfl, ?_⟩) (by assumption) ?_
          rotate_left
          · (intro w hSw; (try dsimp only at hSw); go_simp; try (with_reducible rfl))
          try simp only [lgA, lgB, lgC, Act.put, lsA, lsB, lsC]
          refine' wpAnyH_take (i := 2) rfl (by kernel_rfl) (by kernel_rfl) (by kernel_rfl) (fun _ _ _ h => h) (Or.inl ⟨by kernel_rfl, ?_⟩) (by assumption) ?_
          rotate_left
          · (intro w hSw; (try dsimp only at hSw); go_simp; try (with_reducible rfl))
          try simp only [lgA, lgB, lgC, Act.put, lsA, lsB, lsC]
          refine' wpAnyH_take (i := 3) rfl (by kernel_rfl) (by kernel_rfl) (by kernel_rfl) (fun _ _ _ h => h) (Or.inl ⟨by kernel_rfl, ?_⟩) (by assumption) ?_
          rotate_left
          · (intro w hSw; (try dsimp only at hSw); go_simp; try (with_reducible rfl))
          try simp only [lgA, lgB, lgC, Act.put, lsA, lsB, lsC]
          refine' wpAnyH_take (i := 4) rfl (by kernel_rfl) (by kernel_rfl) (by kernel_rfl) (fun _ _ _ h => h) (Or.inl ⟨by kernel_rfl, ?_⟩) (by assumption) ?_
          rotate_left
          · (intro w hSw; (try dsimp only at hSw); go_simp; try (with_reducible rfl))
          try simp only [lgA, lgB, lgC, Act.put, lsA, lsB, lsC]
          refine' wpAnyH_take (i := 5) rfl (by kernel_rfl) (by kernel_rfl) (by kernel_rfl) (fun _ _ _ h => h) (Or.inl ⟨by kernel_rfl, ?_⟩) (by assumption) ?_
          rotate_left
          · (intro w hSw; (try dsimp only at hSw); go_simp; try (with_reducible rfl))
          try simp only [lgA, lgB, lgC, Act.put, lsA, lsB, lsC]
          refine' wpAnyH_take (i := 6) rfl (by kernel_rfl) (by kernel_rfl) (by kernel_rfl) (fun _ _ _ h => h) (Or.inl ⟨by kernel_rfl, ?_⟩) (by assumption) ?_
          rotate_left
          · (intro w hSw; (try dsimp only at hSw); go_simp; try (with_reducible rfl))
          try simp only [lgA, lgB, lgC, Act.put, lsA, lsB, lsC]
          refine' wpAnyH_take (i := 7) rfl (by kernel_rfl) (by kernel_rfl) (by kernel_rfl) (fun _ _ _ h => h) (Or.inl ⟨by kernel_rfl, ?_⟩) (by assumption) ?_
          rotate_left
          · (intro w hSw; (try dsimp only at hSw); go_simp; try (with_reducible rfl))
          try simp only [lgA, lgB, lgC, Act.put, lsA, lsB, lsC]
          refine' wpAnyH_take (i := 8) rfl (by kernel_rfl) (by kernel_rfl) (by kernel_rfl) (fun _ _ _ h => h) (Or.inl ⟨by kernel_rfl, ?_⟩) (by assumption) ?_
          rotate_left
          · (intro w hSw; (try dsimp only at hSw); go_simp; try (with_reducible rfl))
          try simp only [lgA, lgB, lgC, Act.put, lsA, lsB, lsC]
          refine' wpAnyH_take (i := 9) rfl (by kernel_rfl) (by kernel_rfl) (by kernel_rfl) (fun _ _ _ h => h) (Or.inl ⟨by kernel_rfl, ?_⟩) (by assumption) ?_
          rotate_left
          · (intro w hSw; (try dsimp only at hSw); go_simp; try (with_reducible rfl))
          try simp only [lgA, lgB, lgC, Act.put, lsA, lsB, lsC]
          refine' wpAnyH_take (i := 10) rfl (by kernel_rfl) (by kernel_rfl) (by kernel_rfl) (fun _ _ _ h => h) (Or.inl ⟨by kernel_rfl, ?_⟩) (by assumption) ?_
          rotate_left
          · (intro w hSw; (try dsimp only at hSw); go_simp; try (with_reducible rfl))
          try simp only [lgA, lgB, lgC, Act.put, lsA, lsB, lsC]
          refine' wpAnyH_take (i := 11) rfl (by kernel_rfl) (by kernel_rfl) (by kernel_rfl) (fun _ _ _ h => h) (Or.inl ⟨by kernel_rfl, ?_⟩) (by assumption) ?_
          rotate_left
          · (intro w hSw; (try dsimp only at hSw); go_simp; try (with_reducible rfl))
          try simp only [lgA, lgB, lgC, Act.put, lsA, lsB, lsC]
          refine' wpAnyH_take (i := 12) rfl (by kernel_rfl) (by kernel_rfl) (by kernel_rfl) (fun _ _ _ h => h) (Or.inl ⟨by kernel_rfl, ?_⟩) (by assumption) ?_
          rotate_left
          · (intro w hSw; (try dsimp only at hSw); go_simp; try (with_reducible rfl))
          try simp only [lgA, lgB, lgC, Act.put, lsA, lsB, lsC]
          refine' wpAnyH_take (i := 13) rfl (by kernel_rfl) (by kernel_rfl) (by kernel_rfl) (fun _ _ _ h => h) (Or.inl ⟨by kernel_rfl, ?_⟩) (by assumption) ?_
          rotate_left
          · (intro w hSw; (try dsimp only at hSw); go_simp; try (with_reducible rfl))
          try simp only [lgA, lgB, lgC, Act.put, lsA, lsB, lsC]
          refine wpAnyH_done (by kernel_rfl) ?_ _
          go_wp2
          go_roundw
          case rel => exact ⟨k + 1, hlk, by go_num, by rw [HTK2.out, mem_snoc_dec hm], BV8⟩
          case measure => simp [intOf]; omega
      · have ek : k = na := by omega
        rw [List.take_of_length_le (by rw [HNA.out]; omega)]
        by_cases hm : it ∈ I
        · have e1 : decide (it ∈ I) = true := decide_eq_true hm
          rw [e1]
          have HIN := hid (show ins (l.take (i + 1)) = I from by rw [HTK.out, ins_snoc, HI.out]; exact if_pos hm)
          clear hm
          go_wp2
          go_roundw
          case rel => exact ⟨i + 1, pa, na, ca, hlt, by go_num, rfl, hid (by rw [HIN.out]; exact HNA.out), hid (by rw [HIN.out]; exact own_on HO2.out HBK.out), hid (by rw [HTK.out, run_snoc]; exact HT2.out.on HBK.out)⟩
          case measure => simp [intOf]; omega
        · have e1 : decide (it ∈ I) = false := decide_eq_false hm
          rw [e1]
          have HIN := hid (show ins (l.take (i + 1)) = I ++ [it] from by rw [HTK.out, ins_snoc, HI.out]; exact if_neg hm)
          clear hm
          have g0 := (HCL.out wr (btr HW2.out HBK.out)).1
          have i0 : (0 : Int) ≤ (i : Int) := by omega
          have i1 : (i : Int) < (n : Int) := by omega
          obtain ⟨Y, hY⟩ : ∃ Y, wr.alloc (.cells #[.int .u32 it] 22) = Y := ⟨_, rfl⟩
          have BY := hid (show Below wr.heap.size wr Y from by rw [← hY]; exact ball _ _)
          have CY := hid (show Y.cell? ⟨wr.heap.size, 0, none⟩ = some (.int .u32 it) from row_cell (show Y.heap[wr.heap.size]? = some (.cells #[.int .u32 it] 22 (0, 0)) from by rw [← hY]; exact World.alloc_heap_new _ _) 0)
          have HOY := hid (own_on HO2.out (btr HBK.out BY.out))
          have HTY := hid (HT2.out.on (btr HBK.out BY.out))
          have HY := hid hY
          clear hY
          go_wp2_with (rw [HY.out]; at_builtin; refine app_at (by rfl) (.tmp 86) (.tmp 92) (by rfl) w.heap.size _ na (Sr.ivs I) (by rfl) HOY.out wr.heap.size it (by rfl) CY.out (by omega) (HTY.out.below.size) ?_; intro g1 d1 w' hown hgrow hat hlt9; have HO1 := hid hown; have HG1 := hid hgrow; have HAT := hid hat; clear hown hgrow hat hlt9)
          go_roundw
          case rel =>
            have k1 : Kp (Fs (.slice pa na ca)) Y w' := ⟨HG1.out.os, HG1.out.tape, HG1.out.output, HG1.out.size, fun j hj hne => HG1.out.block j hj (fun e => hne e.symm)⟩
            refine ⟨i + 1, some ⟨g1, 0, none⟩, na + 1, d1, hlt, by go_num, rfl, hid (by rw [HIN.out, List.length_append, HNA.out]; rfl), hid (by rw [HIN.out, ivs_snoc]; exact HO1.out), hid ?_⟩
            rw [HTK.out, run_snoc]
            exact HTY.out.grow k1 (fun b hb => (own_lo HOY.out hb).1) (fun b hb => by cases hb; rcases HAT.out with h | h; exact .inl h; exact .inr (Nat.le_of_eq h.symm)) (fun b hb => (own_lo HO1.out hb).2)
          case measure => simp [intOf]; omega
   obtain rfl : i = n := by omega
   have ELT := hid (List.take_of_length_le (l := l) (i := i) (by rw [HN.out]; exact Nat.le_refl _))
   rw [ELT.out] at HNA HO HT
   have hna : na ≤ 1048576 := by rw [← HNA.out]; have h1 := ins_len l; have h3 := HN.out; have h4 := HMM.out; omega
   have HND := hid (ins_nd l)
   obtain ⟨I, hI⟩ : ∃ I, ins l = I := ⟨_, rfl⟩
   rw [hI] at HNA HO HND
   have HI := hid hI
   clear hI
   obtain ⟨V1, hV1⟩ : ∃ V, V = wr := ⟨_, rfl⟩
   subst hV1
   have EZ := hid (show I.reverse.take (na - na) = [] from by rw [Nat.sub_self]; rfl)
   have HT1 := hid (show Tw w V1 (Fs (.slice pa na ca)) Ga Gb (K + 13 * i) (K + 13 * (ord (I.reverse.take (na - na)) l).length) (run sa l) (run sb (ord (I.reverse.take (na - na)) l)) from by rw [EZ.out]; exact HT.out)
   clear HT
   go_upto_region 19 with fail
   go_loopw [13] (fun kv wr => ∃ j, j ≤ na ∧ kv = .int .i64 ((j : Int) - 1) ∧ Hid (wr.ownsRow w.heap.size 22 1 (.slice pa na ca) na (Sr.ivs I)) ∧ Hid (Tw w wr (Fs (.slice pa na ca)) Ga Gb (K + 13 * i) (K + 13 * (ord (I.reverse.take (na - j)) l).length) (run sa l) (run sb (ord (I.reverse.take (na - j)) l)))) (fun kv _ => (intOf kv + 1).toNat)
   case atStart => exact ⟨na, Nat.le_refl _, by go_num, HO, HT1⟩
   case round =>
    obtain ⟨j, hjn, rfl, HO2, HT2⟩ := hrel
    clear HT1
    by_cases hj0 : 0 < j
    · obtain ⟨k, rfl⟩ : ∃ k, j = k + 1 := ⟨j - 1, by omega⟩
      have hk2 : k < I.length := by rw [HNA.out]; omega
      have hrt := rev_take hk2
      obtain ⟨x, hx⟩ : ∃ x, I[k] = x := ⟨_, rfl⟩
      rw [hx, HNA.out] at hrt
      have HRT := hid hrt
      have HUZ := hid (uz_own HNA.out HO2.out)
      have HNJ := hid (show (I.reverse.take (na - (k + 1)) ++ [x]).Nodup from by rw [← hrt]; exact ((List.reverse_perm I).nodup_iff.2 HND.out).sublist (List.take_sublist _ _))
      clear hrt
      have kc : ((k + 1 : Nat) : Int) - 1 = (k : Nat) := by omega
      rw [kc]
      have kge : (0 : Int) ≤ (k : Int) := by omega
      have k1 : (k : Int) < (na : Int) := by omega
      obtain ⟨J, hJ⟩ : ∃ J, I.reverse.take (na - (k + 1)) = J := ⟨_, rfl⟩
      rw [hJ] at HRT HT2 HNJ
      have HX := hid hx
      clear hx hJ kc
      have HT3 := hid (show Tw w wr (Fs (.slice pa na ca)) Ga Gb (K + 13 * i) (K + 13 * (ord J l ++ flt x (l.take 0)).length) (run sa l) (run sb (ord J l ++ flt x (l.take 0))) from by rw [show flt x (l.take 0) = [] from rfl, List.append_nil]; exact HT2.out)
      obtain ⟨V2, hV2⟩ : ∃ V, V = wr := ⟨_, rfl⟩
      subst hV2
      go_upto_region 22 with fail
      go_loopw [14] (fun iv wr => ∃ m, m ≤ i ∧ iv = .int .i64 (m : Nat) ∧ Hid (wr.ownsRow w.heap.size 22 1 (.slice pa na ca) na (Sr.ivs I)) ∧ Hid (Tw w wr (Fs (.slice pa na ca)) Ga Gb (K + 13 * i) (K + 13 * (ord J l ++ flt x (l.take m)).length) (run sa l) (run sb (ord J l ++ flt x (l.take m))))) (fun iv _ => i - (intOf iv).toNat)
      case atStart => exact ⟨0, Nat.zero_le _, rfl, HO2, HT3⟩
      case round =>
       obtain ⟨m, hmi, rfl, HO3, HT4⟩ := hrel
       clear HT3
       by_cases hlm : m < i
       · have hm2 : m < l.length := by rw [HN.out]; exact hlm
         obtain ⟨b, off, eq, hcl⟩ := HD.out.at hm2
         subst eq
         have hz := HDL.out _ (List.getElem_mem hm2)
         have htk := take_snoc hm2
         obtain ⟨z, hz0⟩ : ∃ z, l[m] = z := ⟨_, rfl⟩
         rw [hz0] at hcl hz htk
         have HTK := hid htk
         obtain ⟨it, bu, se, ta9, pr, qt⟩ := z
         dsimp only at hcl
         have HCL := hid hcl
         have HZ := hid hz
         clear hz hz0 hcl htk
         have m0 : (0 : Int) ≤ (m : Int) := by omega
         have m1 : (m : Int) < (i : Int) := by omega
         obtain ⟨b6, o6, eq6, hc6⟩ := uz_at2 (uz_own HNA.out HO3.out) (show k < I.length from by rw [HNA.out]; omega)
         subst eq6
         rw [HX.out] at hc6
         have F0 := hid (show ∀ U, Below wr.heap.size wr U → U.cell? ⟨b6, o6 + k, none⟩ = some (.int .u32 x) from hc6)
         clear hc6
         have F1 := hid (show ∀ U, Below wr.heap.size wr U → U.cell? ⟨b, off + m * 6, none⟩ = some (.int .u32 it) from fun U hU => (HCL.out U (btr HT4.out.below hU)).1)
         have HLB := hid (ord_len2 HNJ.out l m)
         by_cases hx : it = x
         · have e1 : (it == x) = true := by simpa using hx
           have HFS := hid (show flt x (l.take (m + 1)) = flt x (l.take m) ++ [⟨it, bu, se, ta9, pr, qt⟩] from by rw [HTK.out, flt_snoc, if_pos hx])
           clear hx
           go_upto_region 24 with fail
           obtain ⟨V9, hV9⟩ : ∃ U, wr.drew = U := ⟨_, rfl⟩
           have DV9 := hid (show Below wr.heap.size wr V9 from by rw [← hV9]; exact bdrew1 _)
           have BV9 := hid (btr (Below.refl _ _) DV9.out)
           refine wp_region_held_drew (S := fun U => U.cell? ⟨b6, o6 + k, none⟩ = some (.int .u32 x) ∧ U.cell? ⟨b, off + m * 6, none⟩ = some (.int .u32 it)) (by kernel_rfl) ?_ (fun hHeld => ?_)
           · (try dsimp only); rw [hV9]; exact ⟨F0.out _ BV9.out, F1.out _ BV9.out⟩
           rw [hV9] at hHeld ⊢
           clear hV9
           refine' wpAnyH_take (i := 0) rfl (by kernel_rfl) (by kernel_rfl) (by kernel_rfl) (fun _ _ _ h => h) (Or.inl ⟨by kernel_rfl, ?_⟩) (by assumption) ?_
           rotate_left
           · (intro w hSw; (try dsimp only at hSw); go_simp; try (with_reducible rfl))
           try simp only [lgA, lgB, lgC, Act.put, lsA, lsB, lsC]
           refine' wpAnyH_take (i := 1) rfl (by kernel_rfl) (by kernel_rfl) (by kernel_rfl) (fun _ _ _ h => h) (Or.inl ⟨by kernel_rfl, ?_⟩) (by assumption) ?_
           rotate_left
           · (intro w hSw; (try dsimp only at hSw); go_simp; try (with_reducible rfl))
           try simp only [lgA, lgB, lgC, Act.put, lsA, lsB, lsC]
           refine' wpAnyH_take (i := 2) rfl (by kernel_rfl) (by kernel_rfl) (by kernel_rfl) (fun _ _ _ h => h) (Or.inl ⟨by kernel_rfl, ?_⟩) (by assumption) ?_
           rotate_left
           · (intro w hSw; (try dsimp only at hSw); go_simp; try (with_reducible rfl))
           try simp only [lgA, lgB, lgC, Act.put, lsA, lsB, lsC]
           refine' wpAnyH_take (i := 3) rfl (by kernel_rfl) (by kernel_rfl) (by kernel_rfl) (fun _ _ _ h => h) (Or.inl ⟨by kernel_rfl, ?_⟩) (by assumption) ?_
           rotate_left
           · (intro w hSw; (try dsimp only at hSw); go_simp; try (with_reducible rfl))
           try simp only [lgA, lgB, lgC, Act.put, lsA, lsB, lsC]
           refine' wpAnyH_take (i := 4) rfl (by kernel_rfl) (by kernel_rfl) (by kernel_rfl) (fun _ _ _ h => h) (Or.inl ⟨by kernel_rfl, ?_⟩) (by assumption) ?_
           rotate_left
           · (intro w hSw; (try dsimp only at hSw); go_simp; try (with_reducible rfl))
           try simp only [lgA, lgB, lgC, Act.put, lsA, lsB, lsC]
           refine' wpAnyH_take (i := 5) rfl (by kernel_rfl) (by kernel_rfl) (by kernel_rfl) (fun _ _ _ h => h) (Or.inl ⟨by kernel_rfl, ?_⟩) (by assumption) ?_
           rotate_left
           · (intro w hSw; (try dsimp only at hSw); go_simp; try (with_reducible rfl))
           try simp only [lgA, lgB, lgC, Act.put, lsA, lsB, lsC]
           refine' wpAnyH_take (i := 6) rfl (by kernel_rfl) (by kernel_rfl) (by kernel_rfl) (fun _ _ _ h => h) (Or.inl ⟨by kernel_rfl, ?_⟩) (by assumption) ?_
           rotate_left
           · (intro w hSw; (try dsimp only at hSw); go_simp; try (with_reducible rfl))
           try simp only [lgA, lgB, lgC, Act.put, lsA, lsB, lsC]
           refine' wpAnyH_take (i := 7) rfl (by kernel_rfl) (by kernel_rfl) (by kernel_rfl) (fun _ _ _ h => h) (Or.inl ⟨by kernel_rfl, ?_⟩) (by assumption) ?_
           rotate_left
           · (intro w hSw; (try dsimp only at hSw); go_simp; try (with_reducible rfl))
           try simp only [lgA, lgB, lgC, Act.put, lsA, lsB, lsC]
           refine' wpAnyH_take (i := 8) rfl (by kernel_rfl) (by kernel_rfl) (by kernel_rfl) (fun _ _ _ h => h) (Or.inl ⟨by kernel_rfl, ?_⟩) (by assumption) ?_
           rotate_left
           · (intro w hSw; (try dsimp only at hSw); go_simp; try (with_reducible rfl))
           try simp only [lgA, lgB, lgC, Act.put, lsA, lsB, lsC]
           refine' wpAnyH_take (i := 9) rfl (by kernel_rfl) (by kernel_rfl) (by kernel_rfl) (fun _ _ _ h => h) (Or.inl ⟨by kernel_rfl, ?_⟩) (by assumption) ?_
           rotate_left
           · (intro w hSw; (try dsimp only at hSw); go_simp; try (with_reducible rfl))
           try simp only [lgA, lgB, lgC, Act.put, lsA, lsB, lsC]
           refine wpAnyH_done (by kernel_rfl) ?_ _
           obtain ⟨a0, a1, a2, a3, a4, a5⟩ := HCL.out V9 (btr HT4.out.below BV9.out)
           have CB := hid (show Calls Try.prog 17 #[.pointer (some ⟨Gb, 0, none⟩), .agg #[.int .u32 it, .int .u32 bu, .int .u32 se, .int .i64 ta9, .int .i64 pr, .int .u64 qt]] V9 _ from tw_book_b (HT4.out.on BV9.out) ⟨it, bu, se, ta9, pr, qt⟩ HZ.out (by have h1 := HMM.out; have h2 := HLB.out; have h3 := HN.out; omega))
           have HO4 := hid (own_on HO3.out BV9.out)
           go_wp2_with (go_at_call 17; with_reducible refine CB.out.mono ?_; rintro e W5 ⟨r, rfl, z1, z2⟩; have HT5 := hid z1; have HF5 := hid z2; clear z1 z2)
           go_roundw
           case rel => exact ⟨m + 1, hlm, by go_num, hid (own_same HO4.out (fun g hg => HF5.out g hg)), hid (by rw [HFS.out, ← List.append_assoc, run_snoc, List.length_append]; exact HT5.out)⟩
           case measure => simp [intOf]; omega
         · have e1 : (it == x) = false := by simpa using hx
           have HFS := hid (show flt x (l.take (m + 1)) = flt x (l.take m) from by rw [HTK.out, flt_snoc, if_neg hx])
           clear hx
           go_upto_region 24 with fail
           obtain ⟨V10, hV10⟩ : ∃ U, wr.drew = U := ⟨_, rfl⟩
           have DV10 := hid (show Below wr.heap.size wr V10 from by rw [← hV10]; exact bdrew1 _)
           have BV10 := hid (btr (Below.refl _ _) DV10.out)
           refine wp_region_held_drew (S := fun U => U.cell? ⟨b6, o6 + k, none⟩ = some (.int .u32 x) ∧ U.cell? ⟨b, off + m * 6, none⟩ = some (.int .u32 it)) (by kernel_rfl) ?_ (fun hHeld => ?_)
           · (try dsimp only); rw [hV10]; exact ⟨F0.out _ BV10.out, F1.out _ BV10.out⟩
           rw [hV10] at hHeld ⊢
           clear hV10
           refine' wpAnyH_take (i := 0) rfl (by kernel_rfl) (by kernel_rfl) (by kernel_rfl) (fun _ _ _ h => h) (Or.inl ⟨by kernel_rfl, ?_⟩) (by assumption) ?_
           rotate_left
           · (intro w hSw; (try dsimp only at hSw); go_simp; try (with_reducible rfl))
           try simp only [lgA, lgB, lgC, Act.put, lsA, lsB, lsC]
           refine' wpAnyH_take (i := 1) rfl (by kernel_rfl) (by kernel_rfl) (by kernel_rfl) (fun _ _ _ h => h) (Or.inl ⟨by kernel_rfl, ?_⟩) (by assumption) ?_
           rotate_left
           · (intro w hSw; (try dsimp only at hSw); go_simp; try (with_reducible rfl))
           try simp only [lgA, lgB, lgC, Act.put, lsA, lsB, lsC]
           refine' wpAnyH_take (i := 2) rfl (by kernel_rfl) (by kernel_rfl) (by kernel_rfl) (fun _ _ _ h => h) (Or.inl ⟨by kernel_rfl, ?_⟩) (by assumption) ?_
           rotate_left
           · (intro w hSw; (try dsimp only at hSw); go_simp; try (with_reducible rfl))
           try simp only [lgA, lgB, lgC, Act.put, lsA, lsB, lsC]
           refine' wpAnyH_take (i := 3) rfl (by kernel_rfl) (by kernel_rfl) (by kernel_rfl) (fun _ _ _ h => h) (Or.inl ⟨by kernel_rfl, ?_⟩) (by assumption) ?_
           rotate_left
           · (intro w hSw; (try dsimp only at hSw); go_simp; try (with_reducible rfl))
           try simp only [lgA, lgB, lgC, Act.put, lsA, lsB, lsC]
           refine' wpAnyH_take (i := 4) rfl (by kernel_rfl) (by kernel_rfl) (by kernel_rfl) (fun _ _ _ h => h) (Or.inl ⟨by kernel_rfl, ?_⟩) (by assumption) ?_
           rotate_left
           · (intro w hSw; (try dsimp only at hSw); go_simp; try (with_reducible rfl))
           try simp only [lgA, lgB, lgC, Act.put, lsA, lsB, lsC]
           refine' wpAnyH_take (i := 5) rfl (by kernel_rfl) (by kernel_rfl) (by kernel_rfl) (fun _ _ _ h => h) (Or.inl ⟨by kernel_rfl, ?_⟩) (by assumption) ?_
           rotate_left
           · (intro w hSw; (try dsimp only at hSw); go_simp; try (with_reducible rfl))
           try simp only [lgA, lgB, lgC, Act.put, lsA, lsB, lsC]
           refine' wpAnyH_take (i := 6) rfl (by kernel_rfl) (by kernel_rfl) (by kernel_rfl) (fun _ _ _ h => h) (Or.inl ⟨by kernel_rfl, ?_⟩) (by assumption) ?_
           rotate_left
           · (intro w hSw; (try dsimp only at hSw); go_simp; try (with_reducible rfl))
           try simp only [lgA, lgB, lgC, Act.put, lsA, lsB, lsC]
           refine' wpAnyH_take (i := 7) rfl (by kernel_rfl) (by kernel_rfl) (by kernel_rfl) (fun _ _ _ h => h) (Or.inl ⟨by kernel_rfl, ?_⟩) (by assumption) ?_
           rotate_left
           · (intro w hSw; (try dsimp only at hSw); go_simp; try (with_reducible rfl))
           try simp only [lgA, lgB, lgC, Act.put, lsA, lsB, lsC]
           refine' wpAnyH_take (i := 8) rfl (by kernel_rfl) (by kernel_rfl) (by kernel_rfl) (fun _ _ _ h => h) (Or.inl ⟨by kernel_rfl, ?_⟩) (by assumption) ?_
           rotate_left
           · (intro w hSw; (try dsimp only at hSw); go_simp; try (with_reducible rfl))
           try simp only [lgA, lgB, lgC, Act.put, lsA, lsB, lsC]
           refine' wpAnyH_take (i := 9) rfl (by kernel_rfl) (by kernel_rfl) (by kernel_rfl) (fun _ _ _ h => h) (Or.inl ⟨by kernel_rfl, ?_⟩) (by assumption) ?_
           rotate_left
           · (intro w hSw; (try dsimp only at hSw); go_simp; try (with_reducible rfl))
           try simp only [lgA, lgB, lgC, Act.put, lsA, lsB, lsC]
           refine wpAnyH_done (by kernel_rfl) ?_ _
           go_wp2
           go_roundw
           case rel => exact ⟨m + 1, hlm, by go_num, hid (own_on HO3.out BV10.out), hid (by rw [HFS.out]; exact HT4.out.on BV10.out)⟩
           case measure => simp [intOf]; omega
       · obtain rfl : m = i := by omega
         go_wp2
         go_roundw
         case rel => exact ⟨k, by omega, by go_num, HO3, hid (by rw [HRT.out, ord_snoc]; have h9 := HT4.out; rw [ELT.out] at h9; exact h9)⟩
         case measure => simp [intOf] <;> omega
    obtain rfl : j = 0 := by omega
    have HFI2 := hid (show _ from HFI.out)
    rw [HI.out] at HFI2
    rw [Nat.sub_zero, List.take_of_length_le (by rw [List.length_reverse, HNA.out]; exact Nat.le_refl _)] at HT2
    have HLB := hid (ord_len ((List.reverse_perm I).nodup_iff.2 HND.out) l)
    have HT6 := hid (HT2.out.up (Nat.le_refl _) (show K + 13 * (ord I.reverse l).length ≤ K + 13 * i from by have h1 := HLB.out; have h2 := HN.out; omega))
    clear HT2
    obtain ⟨S, hS⟩ : ∃ S, run sa l = S := ⟨_, rfl⟩
    obtain ⟨T9, hT9⟩ : ∃ S, run sb (ord I.reverse l) = S := ⟨_, rfl⟩
    rw [hS, hT9] at HT6 HFI2
    have HE := HFI2
    clear HFI2 hS hT9
    have CMb := hid (show Calls Try.prog 9 #[.pointer (some ⟨Ga, 0, none⟩)] wr fun e w' => ∃ l q d, e = .returned (.slice q (l : List Int).length d) ∧ Mb S l ∧ Uz w' q l ∧ l.length ≤ K + 13 * i ∧ Below wr.heap.size wr w' from by obtain ⟨O, h1, _, _⟩ := HT6.out.a; exact members_any h1 (by have := HMM.out; omega))
    go_upto_region 28 with (go_at_call 9; with_reducible refine CMb.out.mono ?_; rintro e X0 ⟨ms, qm, dm, rfl, z1, z2, z3, z4⟩; have HMB := hid z1; have HUM := hid z2; have HML := hid z3; have HB0 := hid z4; clear z1 z2 z3 z4)
    have HTX := hid (HT6.out.on HB0.out)
    have HUI := hid (uz_own HNA.out (own_on HO2.out HB0.out))
    clear CMb HT6
    obtain ⟨nm, hnm⟩ : ∃ n, ms.length = n := ⟨_, rfl⟩
    have HNM := hid hnm
    rw [hnm] at HML ⊢
    clear hnm
    have bnm : nm ≤ 100000000 := by have h1 := HML.out; have h2 := HMM.out; omega
    go_loopw [16] (fun iv wr => ∃ i2, i2 ≤ nm ∧ iv = .int .i64 (i2 : Nat) ∧ Hid (Below X0.heap.size X0 wr)) (fun iv _ => nm - (intOf iv).toNat)
    case atStart => exact ⟨0, Nat.zero_le _, rfl, Below.refl _ _⟩
    case round =>
     obtain ⟨i2, hi2n, rfl, HBK⟩ := hrel
     by_cases hl2 : i2 < nm
     rotate_left
     · have CEa := hid (show ∀ U, Below wr.heap.size wr U → Calls Try.prog 10 #[.pointer (some ⟨Ga, 0, none⟩)] U fun e w' => ∃ p' c', e = .returned (.slice p' S.es.length c') ∧ Hid (Below U.heap.size U w') from fun U hU => nl_entries (HTX.out.a.on (btr HBK.out hU)) (by have := HMM.out; omega))
       have CEb := hid (show ∀ U, Below wr.heap.size wr U → Calls Try.prog 10 #[.pointer (some ⟨Gb, 0, none⟩)] U fun e w' => ∃ p' c', e = .returned (.slice p' T9.es.length c') ∧ Hid (Below U.heap.size U w') from fun U hU => nl_entries (HTX.out.b.on (btr HBK.out hU)) (by have := HMM.out; omega))
       rw [← HE.out.2.2] at CEb
       obtain ⟨ne, hne⟩ : ∃ n, S.es.length = n := ⟨_, rfl⟩
       rw [hne] at CEa CEb
       clear hne
       have HZ9 := hid (World.alloc_heap_new wr (.cells #[.int .u32 0, .int .i64 0] 36))
       go_upto_region 40 with (refine wpList_store_row (by rfl) 36 (.tmp 21) (.tmp 191) (by rfl) wr.heap.size #[.int .u32 0, .int .i64 2] (by rfl) (by rfl) 36 _ HZ9.out info36 (by rfl) (by simp [Value.oneCell']) ?_)
       obtain ⟨Y, hY⟩ : ∃ X, (wr.alloc (.cells #[.int .u32 0, .int .i64 0] 36)).setRow wr.heap.size #[.int .u32 0, .int .i64 2] = X := ⟨_, rfl⟩
       have GC := hid (show Y.heap[wr.heap.size]? = some (.cells #[.int .u32 0, .int .i64 2] 36 (0, 0)) from by rw [← hY]; exact setRow_heap _ _ _ _ 36 (0, 0) HZ9.out)
       have BY := hid (show Below wr.heap.size wr Y from by rw [← hY]; exact setRow_below (ball _ _) (Nat.le_refl _))
       rw [hY]
       obtain ⟨y, hy⟩ : ∃ t, wr.heap.size = t := ⟨_, rfl⟩
       rw [hy] at GC ⊢
       clear hY HZ9 hy
       obtain ⟨v, hv⟩ : ∃ v, (S.f (0, 2)).getD 0 = v := ⟨_, rfl⟩
       have hvt : (T9.f (0, 2)).getD 0 = v := by rw [← HE.out.1]; exact hv
       have hvA : Amt v := by rw [← hv]; exact nl_amt HTX.out.a _
       have CBa := hid (show ∀ U, Below Y.heap.size Y U → Calls Try.prog 14 #[.pointer (some ⟨Ga, 0, none⟩), .agg #[.int .u32 0, .int .i64 2]] U fun e w' => e = .returned (mv v) ∧ Hid (Below U.heap.size U w') from fun U hU => by have h9 := nl_balance (HTX.out.a.on (btr HBK.out (btr BY.out hU))) 0 2 u320 wf2; rw [hv] at h9; exact h9)
       have CBb := hid (show ∀ U, Below Y.heap.size Y U → Calls Try.prog 14 #[.pointer (some ⟨Gb, 0, none⟩), .agg #[.int .u32 0, .int .i64 2]] U fun e w' => e = .returned (mv v) ∧ Hid (Below U.heap.size U w') from fun U hU => by have h9 := nl_balance (HTX.out.b.on (btr HBK.out (btr BY.out hU))) 0 2 u320 wf2; rw [hvt] at h9; exact h9)
       have CC := hid (show ∀ U, Calls Try.prog 15 #[mv v, mv v] U fun e w' => e = .returned (.int .i64 0) ∧ Hid (Below U.heap.size U w') from fun U => by have h9 := mcompare_any v v U hvA hvA; rw [cmp_self] at h9; exact h9)
       unfold mv at CBa CBb CC
       clear hv hvt hvA
       obtain ⟨V166, hV166⟩ : ∃ U, Y.drew = U := ⟨_, rfl⟩
       have BV166 := hid (show Below Y.heap.size Y V166 from by rw [← hV166]; exact bdrew1 _)
       have r167 := hid (row_on GC.out BV166.out)
       refine wp_region_held_drew (S := fun U => U.cell? ⟨y, 0, none⟩ = some (.int .u32 0) ∧ U.cell? ⟨y, 1, none⟩ = some (.int .i64 2)) (by kernel_rfl) ?_ (fun hHeld => ?_)
       · (try dsimp only); rw [hV166]; exact ⟨row_cell r167.out 0, row_cell r167.out 1⟩
       rw [hV166] at hHeld ⊢
       clear hV166
       refine' wpAnyH_take (i := 0) rfl (by kernel_rfl) (by kernel_rfl) (by kernel_rfl) (fun _ _ _ h => h) (Or.inl ⟨by kernel_rfl, ?_⟩) (by assumption) ?_
       rotate_left
       · (intro w hSw; (try dsimp only at hSw); go_simp; try (with_reducible rfl))
       try simp only [lgA, lgB, lgC, Act.put, lsA, lsB, lsC]
       refine' wpAnyH_take (i := 1) rfl (by kernel_rfl) (by kernel_rfl) (by kernel_rfl) (fun _ _ _ h => h) (Or.inl ⟨by kernel_rfl, ?_⟩) (by assumption) ?_
       rotate_left
       · (intro w hSw; (try dsimp only at hSw); go_simp; try (with_reducible rfl))
       try simp only [lgA, lgB, lgC, Act.put, lsA, lsB, lsC]
       refine' wpAnyH_take (i := 3) rfl (by kernel_rfl) (by kernel_rfl) (by kernel_rfl) (fun _ _ _ h => h) (Or.inl ⟨by kernel_rfl, ?_⟩) (by assumption) ?_
       rotate_left
       · (intro w hSw; (try dsimp only at hSw); go_simp; try (with_reducible rfl))
       try simp only [lgA, lgB, lgC, Act.put, lsA, lsB, lsC]
       refine' wpAnyH_take (i := 4) rfl (by kernel_rfl) (by kernel_rfl) (by kernel_rfl) (fun _ _ _ h => h) (Or.inl ⟨by kernel_rfl, ?_⟩) (by assumption) ?_
       rotate_left
       · (intro w hSw; (try dsimp only at hSw); go_simp; try (with_reducible rfl))
       try simp only [lgA, lgB, lgC, Act.put, lsA, lsB, lsC]
       refine wpAnyH_ready (rs := [2]) (by kernel_rfl) (by simp) ?_
       refine (AllReadyH.cons rfl (fun K hK => ?_) AllReadyH.nil)
       go_simp
       go_at_call 14
       with_reducible refine (CBa.out V166 BV166.out).mono ?_
       rintro e X168 ⟨rfl, DbX168⟩
       have r169 := hid (row_on r167.out DbX168.out)
       have DX168 := hid (btr BV166.out DbX168.out)
       (try go_wp2_with fail)
       refine hK.out _ _ ?_ (fun hHeld => ?_)
       · (try dsimp only); exact ⟨row_cell r169.out 0, row_cell r169.out 1⟩
       clear hK K
       try simp only [lgA, lgB, lgC, Act.put, lsA, lsB, lsC]
       refine wpAnyH_ready (rs := [5]) (by kernel_rfl) (by simp) ?_
       refine (AllReadyH.cons rfl (fun K hK => ?_) AllReadyH.nil)
       go_simp
       go_at_call 14
       with_reducible refine (CBb.out X168 DX168.out).mono ?_
       rintro e X170 ⟨rfl, DbX170⟩
       have r171 := hid (row_on r169.out DbX170.out)
       have DX170 := hid (btr DX168.out DbX170.out)
       (try go_wp2_with fail)
       refine hK.out _ _ ?_ (fun hHeld => ?_)
       · (try dsimp only); exact ⟨row_cell r171.out 0, row_cell r171.out 1⟩
       clear hK K
       try simp only [lgA, lgB, lgC, Act.put, lsA, lsB, lsC]
       refine wpAnyH_ready (rs := [6]) (by kernel_rfl) (by simp) ?_
       refine (AllReadyH.cons rfl (fun K hK => ?_) AllReadyH.nil)
       go_simp
       go_at_call 15
       with_reducible refine (CC.out X170).mono ?_
       rintro e X172 ⟨rfl, DbX172⟩
       have r173 := hid (row_on r171.out DbX172.out)
       have DX172 := hid (btr DX170.out DbX172.out)
       (try go_wp2_with fail)
       refine hK.out _ _ ?_ (fun hHeld => ?_)
       · (try dsimp only); exact ⟨row_cell r173.out 0, row_cell r173.out 1⟩
       clear hK K
       try simp only [lgA, lgB, lgC, Act.put, lsA, lsB, lsC]
       refine' wpAnyH_take (i := 7) rfl (by kernel_rfl) (by kernel_rfl) (by kernel_rfl) (fun _ _ _ h => h) (Or.inl ⟨by kernel_rfl, ?_⟩) (by assumption) ?_
       rotate_left
       · (intro w hSw; (try dsimp only at hSw); go_simp; try (with_reducible rfl))
       try simp only [lgA, lgB, lgC, Act.put, lsA, lsB, lsC]
       refine' wpAnyH_take (i := 8) rfl (by kernel_rfl) (by kernel_rfl) (by kernel_rfl) (fun _ _ _ h => h) (Or.inl ⟨by kernel_rfl, ?_⟩) (by assumption) ?_
       rotate_left
       · (intro w hSw; (try dsimp only at hSw); go_simp; try (with_reducible rfl))
       try simp only [lgA, lgB, lgC, Act.put, lsA, lsB, lsC]
       refine' wpAnyH_take (i := 9) rfl (by kernel_rfl) (by kernel_rfl) (by kernel_rfl) (fun _ _ _ h => h) (Or.inl ⟨by kernel_rfl, ?_⟩) (by assumption) ?_
       rotate_left
       · (intro w hSw; (try dsimp only at hSw); go_simp; try (with_reducible rfl))
       try simp only [lgA, lgB, lgC, Act.put, lsA, lsB, lsC]
       refine' wpAnyH_take (i := 12) rfl (by kernel_rfl) (by kernel_rfl) (by kernel_rfl) (fun _ _ _ h => h) (Or.inl ⟨by kernel_rfl, ?_⟩) (by assumption) ?_
       rotate_left
       · (intro w hSw; (try dsimp only at hSw); go_simp; try (with_reducible rfl))
       try simp only [lgA, lgB, lgC, Act.put, lsA, lsB, lsC]
       refine wpAnyH_ready (rs := [10]) (by kernel_rfl) (by simp) ?_
       refine (AllReadyH.cons rfl (fun K hK => ?_) AllReadyH.nil)
       go_simp
       go_at_call 10
       with_reducible refine (CEa.out X172 (btr BY.out DX172.out)).mono ?_
       rintro e X174 ⟨p1, c1, rfl, DbX174⟩
       have r175 := hid (row_on r173.out DbX174.out)
       have DX174 := hid (btr DX172.out DbX174.out)
       (try go_wp2_with fail)
       refine hK.out _ _ ?_ (fun hHeld => ?_)
       · (try dsimp only); exact ⟨row_cell r175.out 0, row_cell r175.out 1⟩
       clear hK K
       try simp only [lgA, lgB, lgC, Act.put, lsA, lsB, lsC]
       refine' wpAnyH_take (i := 11) rfl (by kernel_rfl) (by kernel_rfl) (by kernel_rfl) (fun _ _ _ h => h) (Or.inl ⟨by kernel_rfl, ?_⟩) (by assumption) ?_
       rotate_left
       · (intro w hSw; (try dsimp only at hSw); go_simp; try (with_reducible rfl))
       try simp only [lgA, lgB, lgC, Act.put, lsA, lsB, lsC]
       refine wpAnyH_ready (rs := [13]) (by kernel_rfl) (by simp) ?_
       refine (AllReadyH.cons rfl (fun K hK => ?_) AllReadyH.nil)
       go_simp
       go_at_call 10
       with_reducible refine (CEb.out X174 (btr BY.out DX174.out)).mono ?_
       rintro e X176 ⟨p2, c2, rfl, DbX176⟩
       have r177 := hid (row_on r175.out DbX176.out)
       have DX176 := hid (btr DX174.out DbX176.out)
       (try go_wp2_with fail)
       refine hK.out _ _ ?_ (fun hHeld => ?_)
       · (try dsimp only); exact ⟨row_cell r177.out 0, row_cell r177.out 1⟩
       clear hK K
       try simp only [lgA, lgB, lgC, Act.put, lsA, lsB, lsC]
       refine' wpAnyH_take (i := 14) rfl (by kernel_rfl) (by kernel_rfl) (by kernel_rfl) (fun _ _ _ h => h) (Or.inl ⟨by kernel_rfl, ?_⟩) (by assumption) ?_
       rotate_left
       · (intro w hSw; (try dsimp only at hSw); go_simp; try (with_reducible rfl))
       try simp only [lgA, lgB, lgC, Act.put, lsA, lsB, lsC]
       refine' wpAnyH_take (i := 15) rfl (by kernel_rfl) (by kernel_rfl) (by kernel_rfl) (fun _ _ _ h => h) (Or.inl ⟨by kernel_rfl, ?_⟩) (by assumption) ?_
       rotate_left
       · (intro w hSw; (try dsimp only at hSw); go_simp; try (with_reducible rfl))
       try simp only [lgA, lgB, lgC, Act.put, lsA, lsB, lsC]
       refine' wpAnyH_take (i := 16) rfl (by kernel_rfl) (by kernel_rfl) (by kernel_rfl) (fun _ _ _ h => h) (Or.inl ⟨by kernel_rfl, ?_⟩) (by assumption) ?_
       rotate_left
       · (intro w hSw; (try dsimp only at hSw); go_simp; try (with_reducible rfl))
       try simp only [lgA, lgB, lgC, Act.put, lsA, lsB, lsC]
       refine' wpAnyH_take (i := 17) rfl (by kernel_rfl) (by kernel_rfl) (by kernel_rfl) (fun _ _ _ h => h) (Or.inl ⟨by kernel_rfl, ?_⟩) (by assumption) ?_
       rotate_left
       · (intro w hSw; (try dsimp only at hSw); go_simp; try (with_reducible rfl))
       try simp only [lgA, lgB, lgC, Act.put, lsA, lsB, lsC]
       refine wpAnyH_done (by kernel_rfl) ?_ _
       go_wp2
       go_ret
       exact ⟨by simp, btr HTX.out.below (btr HBK.out (btr BY.out DX176.out))⟩
     have hi2 : i2 < ms.length := by rw [HNM.out]; exact hl2
     obtain ⟨b5, o5, eq5, hc5⟩ := uz_at2 HUM.out hi2
     subst eq5
     have hu5 := HMB.out.u _ (List.getElem_mem hi2)
     obtain ⟨m, hm5⟩ : ∃ x, ms[i2] = x := ⟨_, rfl⟩
     rw [hm5] at hc5 hu5
     have HC5 := hid hc5
     have HU5 := hid hu5
     clear hc5 hu5 hm5
     have i0 : (0 : Int) ≤ (i2 : Int) := by omega
     have i1 : (i2 : Int) < (nm : Int) := by omega
     have a0 := HC5.out wr HBK.out
     have HZ9 := hid (World.alloc_heap_new wr (.cells #[.int .u32 0, .int .i64 0] 36))
     go_upto_region 31 with (refine wpList_store_row (by rfl) 36 (.tmp 17) (.tmp 135) (by rfl) wr.heap.size #[.int .u32 m, .int .i64 1] (by rfl) (by rfl) 36 _ HZ9.out info36 (by rfl) (by simp [Value.oneCell']) ?_)
     obtain ⟨Y, hY⟩ : ∃ X, (wr.alloc (.cells #[.int .u32 0, .int .i64 0] 36)).setRow wr.heap.size #[.int .u32 m, .int .i64 1] = X := ⟨_, rfl⟩
     have GC := hid (show Y.heap[wr.heap.size]? = some (.cells #[.int .u32 m, .int .i64 1] 36 (0, 0)) from by rw [← hY]; exact setRow_heap _ _ _ _ 36 (0, 0) HZ9.out)
     have BY := hid (show Below wr.heap.size wr Y from by rw [← hY]; exact setRow_below (ball _ _) (Nat.le_refl _))
     rw [hY]
     obtain ⟨y, hy⟩ : ∃ t, wr.heap.size = t := ⟨_, rfl⟩
     rw [hy] at GC ⊢
     clear hY HZ9 hy
     obtain ⟨v, hv⟩ : ∃ v, (S.f (m, 1)).getD 0 = v := ⟨_, rfl⟩
     have hvt : (T9.f (m, 1)).getD 0 = v := by rw [← HE.out.1]; exact hv
     have hvA : Amt v := by rw [← hv]; exact nl_amt HTX.out.a _
     have CBa := hid (show ∀ U, Below Y.heap.size Y U → Calls Try.prog 14 #[.pointer (some ⟨Ga, 0, none⟩), .agg #[.int .u32 m, .int .i64 1]] U fun e w' => e = .returned (mv v) ∧ Hid (Below U.heap.size U w') from fun U hU => by have h9 := nl_balance (HTX.out.a.on (btr HBK.out (btr BY.out hU))) m 1 HU5.out wf1; rw [hv] at h9; exact h9)
     have CBb := hid (show ∀ U, Below Y.heap.size Y U → Calls Try.prog 14 #[.pointer (some ⟨Gb, 0, none⟩), .agg #[.int .u32 m, .int .i64 1]] U fun e w' => e = .returned (mv v) ∧ Hid (Below U.heap.size U w') from fun U hU => by have h9 := nl_balance (HTX.out.b.on (btr HBK.out (btr BY.out hU))) m 1 HU5.out wf1; rw [hvt] at h9; exact h9)
     have CC := hid (show ∀ U, Calls Try.prog 15 #[mv v, mv v] U fun e w' => e = .returned (.int .i64 0) ∧ Hid (Below U.heap.size U w') from fun U => by have h9 := mcompare_any v v U hvA hvA; rw [cmp_self] at h9; exact h9)
     unfold mv at CBa CBb CC
     clear hv hvt hvA
     clear a0
     obtain ⟨V11, hV11⟩ : ∃ U, Y.drew = U := ⟨_, rfl⟩
     have BV11 := hid (show Below Y.heap.size Y V11 from by rw [← hV11]; exact bdrew1 _)
     have r12 := hid (row_on GC.out BV11.out)
     refine wp_region_held_drew (S := fun U => U.cell? ⟨y, 0, none⟩ = some (.int .u32 m) ∧ U.cell? ⟨y, 1, none⟩ = some (.int .i64 1)) (by kernel_rfl) ?_ (fun hHeld => ?_)
     · (try dsimp only); rw [hV11]; exact ⟨row_cell r12.out 0, row_cell r12.out 1⟩
     rw [hV11] at hHeld ⊢
     clear hV11
     refine' wpAnyH_take (i := 0) rfl (by kernel_rfl) (by kernel_rfl) (by kernel_rfl) (fun _ _ _ h => h) (Or.inl ⟨by kernel_rfl, ?_⟩) (by assumption) ?_
     rotate_left
     · (intro w hSw; (try dsimp only at hSw); go_simp; try (with_reducible rfl))
     try simp only [lgA, lgB, lgC, Act.put, lsA, lsB, lsC]
     refine' wpAnyH_take (i := 1) rfl (by kernel_rfl) (by kernel_rfl) (by kernel_rfl) (fun _ _ _ h => h) (Or.inl ⟨by kernel_rfl, ?_⟩) (by assumption) ?_
     rotate_left
     · (intro w hSw; (try dsimp only at hSw); go_simp; try (with_reducible rfl))
     try simp only [lgA, lgB, lgC, Act.put, lsA, lsB, lsC]
     refine' wpAnyH_take (i := 3) rfl (by kernel_rfl) (by kernel_rfl) (by kernel_rfl) (fun _ _ _ h => h) (Or.inl ⟨by kernel_rfl, ?_⟩) (by assumption) ?_
     rotate_left
     · (intro w hSw; (try dsimp only at hSw); go_simp; try (with_reducible rfl))
     try simp only [lgA, lgB, lgC, Act.put, lsA, lsB, lsC]
     refine' wpAnyH_take (i := 4) rfl (by kernel_rfl) (by kernel_rfl) (by kernel_rfl) (fun _ _ _ h => h) (Or.inl ⟨by kernel_rfl, ?_⟩) (by assumption) ?_
     rotate_left
     · (intro w hSw; (try dsimp only at hSw); go_simp; try (with_reducible rfl))
     try simp only [lgA, lgB, lgC, Act.put, lsA, lsB, lsC]
     refine wpAnyH_ready (rs := [2]) (by kernel_rfl) (by simp) ?_
     refine (AllReadyH.cons rfl (fun K hK => ?_) AllReadyH.nil)
     go_simp
     go_at_call 14
     with_reducible refine (CBa.out V11 BV11.out).mono ?_
     rintro e X13 ⟨rfl, DbX13⟩
     have r14 := hid (row_on r12.out DbX13.out)
     have DX13 := hid (btr BV11.out DbX13.out)
     (try go_wp2_with fail)
     refine hK.out _ _ ?_ (fun hHeld => ?_)
     · (try dsimp only); exact ⟨row_cell r14.out 0, row_cell r14.out 1⟩
     clear hK K
     try simp only [lgA, lgB, lgC, Act.put, lsA, lsB, lsC]
     refine wpAnyH_ready (rs := [5]) (by kernel_rfl) (by simp) ?_
     refine (AllReadyH.cons rfl (fun K hK => ?_) AllReadyH.nil)
     go_simp
     go_at_call 14
     with_reducible refine (CBb.out X13 DX13.out).mono ?_
     rintro e X15 ⟨rfl, DbX15⟩
     have r16 := hid (row_on r14.out DbX15.out)
     have DX15 := hid (btr DX13.out DbX15.out)
     (try go_wp2_with fail)
     refine hK.out _ _ ?_ (fun hHeld => ?_)
     · (try dsimp only); exact ⟨row_cell r16.out 0, row_cell r16.out 1⟩
     clear hK K
     try simp only [lgA, lgB, lgC, Act.put, lsA, lsB, lsC]
     refine wpAnyH_ready (rs := [6]) (by kernel_rfl) (by simp) ?_
     refine (AllReadyH.cons rfl (fun K hK => ?_) AllReadyH.nil)
     go_simp
     go_at_call 15
     with_reducible refine (CC.out X15).mono ?_
     rintro e X17 ⟨rfl, DbX17⟩
     have r18 := hid (row_on r16.out DbX17.out)
     have DX17 := hid (btr DX15.out DbX17.out)
     (try go_wp2_with fail)
     refine hK.out _ _ ?_ (fun hHeld => ?_)
     · (try dsimp only); exact ⟨row_cell r18.out 0, row_cell r18.out 1⟩
     clear hK K
     try simp only [lgA, lgB, lgC, Act.put, lsA, lsB, lsC]
     refine' wpAnyH_take (i := 7) rfl (by kernel_rfl) (by kernel_rfl) (by kernel_rfl) (fun _ _ _ h => h) (Or.inl ⟨by kernel_rfl, ?_⟩) (by assumption) ?_
     rotate_left
     · (intro w hSw; (try dsimp only at hSw); go_simp; try (with_reducible rfl))
     try simp only [lgA, lgB, lgC, Act.put, lsA, lsB, lsC]
     refine wpAnyH_done (by kernel_rfl) ?_ _
     have HBZ := hid (btr HBK.out (btr BY.out DX17.out))
     clear CBa CBb CC GC BY HBK
     go_upto_region 34 with fail
     go_loopw [18] (fun kv wr => ∃ k, k ≤ na ∧ kv = .int .i64 (k : Nat) ∧ Hid (Below X0.heap.size X0 wr)) (fun kv _ => na - (intOf kv).toNat)
     case atStart => exact ⟨0, Nat.zero_le _, rfl, HBZ⟩
     case round =>
      obtain ⟨k, hkn, rfl, HBW⟩ := hrel
      by_cases hlk : k < na
      rotate_left
      · obtain rfl : k = na := by omega
        go_wp2
        go_roundw
        case rel => exact ⟨i2 + 1, hl2, by go_num, HBW⟩
        case measure => simp [intOf]; omega
      have hk2 : k < I.length := by rw [HNA.out]; exact hlk
      obtain ⟨b6, o6, eq6, hc6⟩ := uz_at2 HUI.out hk2
      subst eq6
      have hmem := List.getElem_mem hk2
      obtain ⟨x, hx⟩ : ∃ x, I[k] = x := ⟨_, rfl⟩
      rw [hx] at hc6 hmem
      have hux : U32 x := by obtain ⟨d, hd, e⟩ := ins_mem.1 (by rw [HI.out]; exact hmem); rw [e]; exact (HDL.out d hd).it
      have F0 := hid (show ∀ U, Below wr.heap.size wr U → U.cell? ⟨b5, o5 + i2, none⟩ = some (.int .u32 m) from fun U hU => HC5.out U (btr HBW.out hU))
      have F1 := hid (show ∀ U, Below wr.heap.size wr U → U.cell? ⟨b6, o6 + k, none⟩ = some (.int .u32 x) from fun U hU => hc6 U (btr HBW.out hU))
      have k0 : (0 : Int) ≤ (k : Int) := by omega
      have k1 : (k : Int) < (na : Int) := by omega
      obtain ⟨pp, hpp⟩ : ∃ p, S.g m x = p := ⟨_, rfl⟩
      have hpt : T9.g m x = pp := by rw [← HE.out.2.1 x hmem m]; exact hpp
      have hok := nl_gok HTX.out.a m x
      rw [hpp] at hok
      have CPa := hid (show ∀ U, Below wr.heap.size wr U → Calls Try.prog 18 #[.pointer (some ⟨Ga, 0, none⟩), .int .u32 m, .int .u32 x] U fun e w' => e = .returned (.agg pp.row) ∧ Hid (Below U.heap.size U w') from fun U hU => by have h9 := nl_position (HTX.out.a.on (btr HBW.out hU)) m x HU5.out hux; rw [hpp] at h9; exact h9)
      have CPb := hid (show ∀ U, Below wr.heap.size wr U → Calls Try.prog 18 #[.pointer (some ⟨Gb, 0, none⟩), .int .u32 m, .int .u32 x] U fun e w' => e = .returned (.agg pp.row) ∧ Hid (Below U.heap.size U w') from fun U hU => by have h9 := nl_position (HTX.out.b.on (btr HBW.out hU)) m x HU5.out hux; rw [hpt] at h9; exact h9)
      have CM1 := hid (show ∀ U, Calls Try.prog 15 #[mv pp.co, mv pp.co] U fun e w' => e = .returned (.int .i64 0) ∧ Below U.heap.size U w' from fun U => by have h9 := mcompare_any pp.co pp.co U hok.co hok.co; rw [cmp_self] at h9; exact h9)
      have CM2 := hid (show ∀ U, Calls Try.prog 15 #[mv pp.ga, mv pp.ga] U fun e w' => e = .returned (.int .i64 0) ∧ Below U.heap.size U w' from fun U => by have h9 := mcompare_any pp.ga pp.ga U hok.ga hok.ga; rw [cmp_self] at h9; exact h9)
      unfold mv at CM1 CM2
      unfold Po.row at CPa CPb
      clear hc6 hmem hx hux hpp hpt hok
      go_upto_region 36 with fail
      obtain ⟨V19, hV19⟩ : ∃ U, wr.drew = U := ⟨_, rfl⟩
      have BV19 := hid (show Below wr.heap.size wr V19 from by rw [← hV19]; exact bdrew1 _)
      refine wp_region_held_drew (S := (fun U => U.cell? ⟨b5, o5 + i2, none⟩ = some (.int .u32 m) ∧ U.cell? ⟨b6, o6 + k, none⟩ = some (.int .u32 x))) (by kernel_rfl) ?_ (fun hHeld => ?_)
      · (try dsimp only); rw [hV19]; exact ⟨F0.out _ BV19.out, F1.out _ BV19.out⟩
      rw [hV19] at hHeld ⊢
      clear hV19
      refine' wpAnyH_take (i := 0) rfl (by kernel_rfl) (by kernel_rfl) (by kernel_rfl) (fun _ _ _ h => h) (Or.inl ⟨by kernel_rfl, ?_⟩) (by assumption) ?_
      rotate_left
      · (intro w hSw; (try dsimp only at hSw); go_simp; try (with_reducible rfl))
      try simp only [lgA, lgB, lgC, Act.put, lsA, lsB, lsC]
      refine' wpAnyH_take (i := 1) rfl (by kernel_rfl) (by kernel_rfl) (by kernel_rfl) (fun _ _ _ h => h) (Or.inl ⟨by kernel_rfl, ?_⟩) (by assumption) ?_
      rotate_left
      · (intro w hSw; (try dsimp only at hSw); go_simp; try (with_reducible rfl))
      try simp only [lgA, lgB, lgC, Act.put, lsA, lsB, lsC]
      refine' wpAnyH_take (i := 2) rfl (by kernel_rfl) (by kernel_rfl) (by kernel_rfl) (fun _ _ _ h => h) (Or.inl ⟨by kernel_rfl, ?_⟩) (by assumption) ?_
      rotate_left
      · (intro w hSw; (try dsimp only at hSw); go_simp; try (with_reducible rfl))
      try simp only [lgA, lgB, lgC, Act.put, lsA, lsB, lsC]
      refine' wpAnyH_take (i := 3) rfl (by kernel_rfl) (by kernel_rfl) (by kernel_rfl) (fun _ _ _ h => h) (Or.inl ⟨by kernel_rfl, ?_⟩) (by assumption) ?_
      rotate_left
      · (intro w hSw; (try dsimp only at hSw); go_simp; try (with_reducible rfl))
      try simp only [lgA, lgB, lgC, Act.put, lsA, lsB, lsC]
      refine' wpAnyH_take (i := 4) rfl (by kernel_rfl) (by kernel_rfl) (by kernel_rfl) (fun _ _ _ h => h) (Or.inl ⟨by kernel_rfl, ?_⟩) (by assumption) ?_
      rotate_left
      · (intro w hSw; (try dsimp only at hSw); go_simp; try (with_reducible rfl))
      try simp only [lgA, lgB, lgC, Act.put, lsA, lsB, lsC]
      refine' wpAnyH_take (i := 5) rfl (by kernel_rfl) (by kernel_rfl) (by kernel_rfl) (fun _ _ _ h => h) (Or.inl ⟨by kernel_rfl, ?_⟩) (by assumption) ?_
      rotate_left
      · (intro w hSw; (try dsimp only at hSw); go_simp; try (with_reducible rfl))
      try simp only [lgA, lgB, lgC, Act.put, lsA, lsB, lsC]
      refine' wpAnyH_take (i := 6) rfl (by kernel_rfl) (by kernel_rfl) (by kernel_rfl) (fun _ _ _ h => h) (Or.inl ⟨by kernel_rfl, ?_⟩) (by assumption) ?_
      rotate_left
      · (intro w hSw; (try dsimp only at hSw); go_simp; try (with_reducible rfl))
      try simp only [lgA, lgB, lgC, Act.put, lsA, lsB, lsC]
      refine' wpAnyH_take (i := 7) rfl (by kernel_rfl) (by kernel_rfl) (by kernel_rfl) (fun _ _ _ h => h) (Or.inl ⟨by kernel_rfl, ?_⟩) (by assumption) ?_
      rotate_left
      · (intro w hSw; (try dsimp only at hSw); go_simp; try (with_reducible rfl))
      try simp only [lgA, lgB, lgC, Act.put, lsA, lsB, lsC]
      refine' wpAnyH_take (i := 8) rfl (by kernel_rfl) (by kernel_rfl) (by kernel_rfl) (fun _ _ _ h => h) (Or.inl ⟨by kernel_rfl, ?_⟩) (by assumption) ?_
      rotate_left
      · (intro w hSw; (try dsimp only at hSw); go_simp; try (with_reducible rfl))
      try simp only [lgA, lgB, lgC, Act.put, lsA, lsB, lsC]
      refine' wpAnyH_take (i := 10) rfl (by kernel_rfl) (by kernel_rfl) (by kernel_rfl) (fun _ _ _ h => h) (Or.inl ⟨by kernel_rfl, ?_⟩) (by assumption) ?_
      rotate_left
      · (intro w hSw; (try dsimp only at hSw); go_simp; try (with_reducible rfl))
      try simp only [lgA, lgB, lgC, Act.put, lsA, lsB, lsC]
      refine' wpAnyH_take (i := 11) rfl (by kernel_rfl) (by kernel_rfl) (by kernel_rfl) (fun _ _ _ h => h) (Or.inl ⟨by kernel_rfl, ?_⟩) (by assumption) ?_
      rotate_left
      · (intro w hSw; (try dsimp only at hSw); go_simp; try (with_reducible rfl))
      try simp only [lgA, lgB, lgC, Act.put, lsA, lsB, lsC]
      refine' wpAnyH_take (i := 12) rfl (by kernel_rfl) (by kernel_rfl) (by kernel_rfl) (fun _ _ _ h => h) (Or.inl ⟨by kernel_rfl, ?_⟩) (by assumption) ?_
      rotate_left
      · (intro w hSw; (try dsimp only at hSw); go_simp; try (with_reducible rfl))
      try simp only [lgA, lgB, lgC, Act.put, lsA, lsB, lsC]
      refine' wpAnyH_take (i := 13) rfl (by kernel_rfl) (by kernel_rfl) (by kernel_rfl) (fun _ _ _ h => h) (Or.inl ⟨by kernel_rfl, ?_⟩) (by assumption) ?_
      rotate_left
      · (intro w hSw; (try dsimp only at hSw); go_simp; try (with_reducible rfl))
      try simp only [lgA, lgB, lgC, Act.put, lsA, lsB, lsC]
      refine' wpAnyH_take (i := 14) rfl (by kernel_rfl) (by kernel_rfl) (by kernel_rfl) (fun _ _ _ h => h) (Or.inl ⟨by kernel_rfl, ?_⟩) (by assumption) ?_
      rotate_left
      · (intro w hSw; (try dsimp only at hSw); go_simp; try (with_reducible rfl))
      try simp only [lgA, lgB, lgC, Act.put, lsA, lsB, lsC]
      refine' wpAnyH_take (i := 15) rfl (by kernel_rfl) (by kernel_rfl) (by kernel_rfl) (fun _ _ _ h => h) (Or.inl ⟨by kernel_rfl, ?_⟩) (by assumption) ?_
      rotate_left
      · (intro w hSw; (try dsimp only at hSw); go_simp; try (with_reducible rfl))
      try simp only [lgA, lgB, lgC, Act.put, lsA, lsB, lsC]
      refine' wpAnyH_take (i := 16) rfl (by kernel_rfl) (by kernel_rfl) (by kernel_rfl) (fun _ _ _ h => h) (Or.inl ⟨by kernel_rfl, ?_⟩) (by assumption) ?_
      rotate_left
      · (intro w hSw; (try dsimp only at hSw); go_simp; try (with_reducible rfl))
      try simp only [lgA, lgB, lgC, Act.put, lsA, lsB, lsC]
      refine' wpAnyH_take (i := 17) rfl (by kernel_rfl) (by kernel_rfl) (by kernel_rfl) (fun _ _ _ h => h) (Or.inl ⟨by kernel_rfl, ?_⟩) (by assumption) ?_
      rotate_left
      · (intro w hSw; (try dsimp only at hSw); go_simp; try (with_reducible rfl))
      try simp only [lgA, lgB, lgC, Act.put, lsA, lsB, lsC]
      refine' wpAnyH_take (i := 18) rfl (by kernel_rfl) (by kernel_rfl) (by kernel_rfl) (fun _ _ _ h => h) (Or.inl ⟨by kernel_rfl, ?_⟩) (by assumption) ?_
      rotate_left
      · (intro w hSw; (try dsimp only at hSw); go_simp; try (with_reducible rfl))
      try simp only [lgA, lgB, lgC, Act.put, lsA, lsB, lsC]
      refine wpAnyH_ready (rs := [9, 20, 21]) (by kernel_rfl) (by simp) ?_
      refine (AllReadyH.cons rfl (fun K hK => ?_) (AllReadyH.cons rfl (fun K hK => ?_) (AllReadyH.cons rfl (fun K hK => ?_) AllReadyH.nil)))
      · go_simp
        go_at_call 18
        with_reducible refine (CPa.out V19 BV19.out).mono ?_
        rintro e X20 ⟨rfl, DbX20⟩
        have DX20 := hid (btr BV19.out DbX20.out)
        have UX20 := hid (BV19.out.size)
        (try go_wp2_with fail)
        refine hK.out _ _ ?_ (fun hHeld => ?_)
        · (try dsimp only); exact ⟨F0.out _ DX20.out, F1.out _ DX20.out⟩
        clear hK K
        try simp only [lgA, lgB, lgC, Act.put, lsA, lsB, lsC]
        refine wpAnyH_ready (rs := [19, 20, 21]) (by kernel_rfl) (by simp) ?_
        refine (AllReadyH.cons rfl (fun K hK => ?_) (AllReadyH.cons rfl (fun K hK => ?_) (AllReadyH.cons rfl (fun K hK => ?_) AllReadyH.nil)))
        · go_simp
          go_at_call 18
          with_reducible refine (CPb.out X20 DX20.out).mono ?_
          rintro e X21 ⟨rfl, DbX21⟩
          have DX21 := hid (btr DX20.out DbX21.out)
          have UX21 := hid (DX20.out.size)
          (try go_wp2_with fail)
          refine hK.out _ _ ?_ (fun hHeld => ?_)
          · (try dsimp only); exact ⟨F0.out _ DX21.out, F1.out _ DX21.out⟩
          clear hK K
          try simp only [lgA, lgB, lgC, Act.put, lsA, lsB, lsC]
          refine wpAnyH_ready (rs := [20, 21]) (by kernel_rfl) (by simp) ?_
          refine (AllReadyH.cons rfl (fun K hK => ?_) (AllReadyH.cons rfl (fun K hK => ?_) AllReadyH.nil))
          · go_simp
            obtain ⟨X22, hX22⟩ : ∃ X, X21.alloc (.cells #[.int .i64 0, .int .u64 0, .int .u64 0, .int .u64 0, .int .u64 0] 55) = X := ⟨_, rfl⟩
            have bX22 : Below X21.heap.size X21 X22 := by rw [← hX22]; exact ball _ _
            have DX22 := hid (btr DX21.out bX22)
            have zX22 : X22.heap[X21.heap.size]? = some (.cells #[.int .i64 0, .int .u64 0, .int .u64 0, .int .u64 0, .int .u64 0] 55 (0, 0)) := by rw [← hX22]; exact World.alloc_heap_new _ _
            have yg23 := DX21.out.size
            obtain ⟨g23, hg23⟩ : ∃ g, X21.heap.size = g := ⟨_, rfl⟩
            rw [hg23] at zX22 yg23
            have ZX22 := hid zX22
            rw [hX22, hg23]
            clear hX22 hg23 zX22 bX22
            refine hK.out _ _ ?_ (fun hHeld => ?_)
            · (try dsimp only); exact ⟨F0.out _ DX22.out, F1.out _ DX22.out⟩
            clear hK K
            try simp only [lgA, lgB, lgC, Act.put, lsA, lsB, lsC]
            refine wpAnyH_ready (rs := [21]) (by kernel_rfl) (by simp) ?_
            refine (AllReadyH.cons rfl (fun K hK => ?_) AllReadyH.nil)
            go_simp
            obtain ⟨X24, hX24⟩ : ∃ X, X22.alloc (.cells #[.int .i64 0, .int .u64 0, .int .u64 0, .int .u64 0, .int .u64 0] 55) = X := ⟨_, rfl⟩
            have bX24 : Below X22.heap.size X22 X24 := by rw [← hX24]; exact ball _ _
            have r26 := hid (row_on ZX22.out bX24)
            have DX24 := hid (btr DX22.out bX24)
            have zX24 : X24.heap[X22.heap.size]? = some (.cells #[.int .i64 0, .int .u64 0, .int .u64 0, .int .u64 0, .int .u64 0] 55 (0, 0)) := by rw [← hX24]; exact World.alloc_heap_new _ _
            have yg25 := DX22.out.size
            obtain ⟨g25, hg25⟩ : ∃ g, X22.heap.size = g := ⟨_, rfl⟩
            have n27 : g25 ≠ g23 := by have := row_lt ZX22.out; omega
            rw [hg25] at zX24 yg25
            have ZX24 := hid zX24
            rw [hX24, hg25]
            clear hX24 hg25 zX24 bX24
            refine hK.out _ _ ?_ (fun hHeld => ?_)
            · (try dsimp only); exact ⟨F0.out _ DX24.out, F1.out _ DX24.out⟩
            clear hK K
            try simp only [lgA, lgB, lgC, Act.put, lsA, lsB, lsC]
            refine wpAnyH_ready (rs := [22]) (by kernel_rfl) (by simp) ?_
            refine (AllReadyH.cons rfl (fun K hK => ?_) AllReadyH.nil)
            refine step_store_row (by rfl) 55 (.tmp 19) (.tmp 159) (by rfl) g23 #[.int .i64 pp.qt, .int .u64 (hiW pp.co), .int .u64 (loW pp.co), .int .u64 (hiW pp.ga), .int .u64 (loW pp.ga)] (by rfl) (by rfl) 55 _ r26.out infoPo5 (by rfl) (by simp [Value.oneCell']) ?_
            obtain ⟨Y28, hY28⟩ : ∃ Y, X24.setRow g23 #[.int .i64 pp.qt, .int .u64 (hiW pp.co), .int .u64 (loW pp.co), .int .u64 (hiW pp.ga), .int .u64 (loW pp.ga)] = Y := ⟨_, rfl⟩
            have KY28 := hid (show Kp (fun j => j = g23) X24 Y28 from by rw [← hY28]; exact setRow_kp _ _ _)
            have AY28 := hid (show Y28.heap[g23]? = some (.cells #[.int .i64 pp.qt, .int .u64 (hiW pp.co), .int .u64 (loW pp.co), .int .u64 (hiW pp.ga), .int .u64 (loW pp.ga)] 55 (0, 0)) from by rw [← hY28]; exact setRow_heap X24 g23 _ _ 55 (0, 0) r26.out)
            have DY28 := hid (show Below wr.heap.size wr Y28 from by rw [← hY28]; exact setRow_below DX24.out yg23)
            have r29 := hid (KY28.out.row ZX24.out (fun e => n27 e))
            rw [hY28]
            refine hK.out _ _ ?_ (fun hHeld => ?_)
            · (try dsimp only); exact ⟨F0.out _ DY28.out, F1.out _ DY28.out⟩
            clear hK K hY28
            try simp only [lgA, lgB, lgC, Act.put, lsA, lsB, lsC]
            refine wpAnyH_ready (rs := [23]) (by kernel_rfl) (by simp) ?_
            refine (AllReadyH.cons rfl (fun K hK => ?_) AllReadyH.nil)
            refine step_store_row (by rfl) 55 (.tmp 20) (.tmp 169) (by rfl) g25 #[.int .i64 pp.qt, .int .u64 (hiW pp.co), .int .u64 (loW pp.co), .int .u64 (hiW pp.ga), .int .u64 (loW pp.ga)] (by rfl) (by rfl) 55 _ r29.out infoPo5 (by rfl) (by simp [Value.oneCell']) ?_
            obtain ⟨Y30, hY30⟩ : ∃ Y, Y28.setRow g25 #[.int .i64 pp.qt, .int .u64 (hiW pp.co), .int .u64 (loW pp.co), .int .u64 (hiW pp.ga), .int .u64 (loW pp.ga)] = Y := ⟨_, rfl⟩
            have KY30 := hid (show Kp (fun j => j = g25) Y28 Y30 from by rw [← hY30]; exact setRow_kp _ _ _)
            have AY30 := hid (show Y30.heap[g25]? = some (.cells #[.int .i64 pp.qt, .int .u64 (hiW pp.co), .int .u64 (loW pp.co), .int .u64 (hiW pp.ga), .int .u64 (loW pp.ga)] 55 (0, 0)) from by rw [← hY30]; exact setRow_heap Y28 g25 _ _ 55 (0, 0) r29.out)
            have DY30 := hid (show Below wr.heap.size wr Y30 from by rw [← hY30]; exact setRow_below DY28.out yg25)
            have r31 := hid (KY30.out.row AY28.out (fun e => n27.symm e))
            rw [hY30]
            refine hK.out _ _ ?_ (fun hHeld => ?_)
            · (try dsimp only); exact ⟨F0.out _ DY30.out, F1.out _ DY30.out⟩
            clear hK K hY30
            try simp only [lgA, lgB, lgC, Act.put, lsA, lsB, lsC]
            refine wpAnyH_done (by kernel_rfl) ?_ _
            obtain ⟨y0, y1, y2, y3, y4⟩ := po_cells r31.out
            obtain ⟨z0, z1, z2, z3, z4⟩ := po_cells AY30.out
            go_wp2_with (first | (go_at_call 15; with_reducible refine (CM1.out Y30).mono ?_; rintro e u2 ⟨rfl, hb⟩; have HB2 := hid (btr DY30.out hb); obtain ⟨s0, s1, s2, s3, s4⟩ := po_cells (row_on r31.out hb); obtain ⟨t0, t1, t2, t3, t4⟩ := po_cells (row_on AY30.out hb); clear hb) | (go_at_call 15; with_reducible refine (CM2.out u2).mono ?_; rintro e u3 ⟨rfl, hb⟩; have HB3 := hid (btr HB2.out hb); clear hb))
            go_roundw
            case rel => exact ⟨k + 1, hlk, by go_num, hid (btr HBW.out HB3.out)⟩
            case measure => simp [intOf]; omega
          · go_simp
            obtain ⟨X32, hX32⟩ : ∃ X, X21.alloc (.cells #[.int .i64 0, .int .u64 0, .int .u64 0, .int .u64 0, .int .u64 0] 55) = X := ⟨_, rfl⟩
            have bX32 : Below X21.heap.size X21 X32 := by rw [← hX32]; exact ball _ _
            have DX32 := hid (btr DX21.out bX32)
            have zX32 : X32.heap[X21.heap.size]? = some (.cells #[.int .i64 0, .int .u64 0, .int .u64 0, .int .u64 0, .int .u64 0] 55 (0, 0)) := by rw [← hX32]; exact World.alloc_heap_new _ _
            have yg33 := DX21.out.size
            obtain ⟨g33, hg33⟩ : ∃ g, X21.heap.size = g := ⟨_, rfl⟩
            rw [hg33] at zX32 yg33
            have ZX32 := hid zX32
            rw [hX32, hg33]
            clear hX32 hg33 zX32 bX32
            refine hK.out _ _ ?_ (fun hHeld => ?_)
            · (try dsimp only); exact ⟨F0.out _ DX32.out, F1.out _ DX32.out⟩
            clear hK K
            try simp only [lgA, lgB, lgC, Act.put, lsA, lsB, lsC]
            refine wpAnyH_ready (rs := [20]) (by kernel_rfl) (by simp) ?_
            refine (AllReadyH.cons rfl (fun K hK => ?_) AllReadyH.nil)
            go_simp
            obtain ⟨X34, hX34⟩ : ∃ X, X32.alloc (.cells #[.int .i64 0, .int .u64 0, .int .u64 0, .int .u64 0, .int .u64 0] 55) = X := ⟨_, rfl⟩
            have bX34 : Below X32.heap.size X32 X34 := by rw [← hX34]; exact ball _ _
            have r36 := hid (row_on ZX32.out bX34)
            have DX34 := hid (btr DX32.out bX34)
            have zX34 : X34.heap[X32.heap.size]? = some (.cells #[.int .i64 0, .int .u64 0, .int .u64 0, .int .u64 0, .int .u64 0] 55 (0, 0)) := by rw [← hX34]; exact World.alloc_heap_new _ _
            have yg35 := DX32.out.size
            obtain ⟨g35, hg35⟩ : ∃ g, X32.heap.size = g := ⟨_, rfl⟩
            have n37 : g35 ≠ g33 := by have := row_lt ZX32.out; omega
            rw [hg35] at zX34 yg35
            have ZX34 := hid zX34
            rw [hX34, hg35]
            clear hX34 hg35 zX34 bX34
            refine hK.out _ _ ?_ (fun hHeld => ?_)
            · (try dsimp only); exact ⟨F0.out _ DX34.out, F1.out _ DX34.out⟩
            clear hK K
            try simp only [lgA, lgB, lgC, Act.put, lsA, lsB, lsC]
            refine wpAnyH_ready (rs := [22]) (by kernel_rfl) (by simp) ?_
            refine (AllReadyH.cons rfl (fun K hK => ?_) AllReadyH.nil)
            refine step_store_row (by rfl) 55 (.tmp 19) (.tmp 159) (by rfl) g35 #[.int .i64 pp.qt, .int .u64 (hiW pp.co), .int .u64 (loW pp.co), .int .u64 (hiW pp.ga), .int .u64 (loW pp.ga)] (by rfl) (by rfl) 55 _ ZX34.out infoPo5 (by rfl) (by simp [Value.oneCell']) ?_
            obtain ⟨Y38, hY38⟩ : ∃ Y, X34.setRow g35 #[.int .i64 pp.qt, .int .u64 (hiW pp.co), .int .u64 (loW pp.co), .int .u64 (hiW pp.ga), .int .u64 (loW pp.ga)] = Y := ⟨_, rfl⟩
            have KY38 := hid (show Kp (fun j => j = g35) X34 Y38 from by rw [← hY38]; exact setRow_kp _ _ _)
            have AY38 := hid (show Y38.heap[g35]? = some (.cells #[.int .i64 pp.qt, .int .u64 (hiW pp.co), .int .u64 (loW pp.co), .int .u64 (hiW pp.ga), .int .u64 (loW pp.ga)] 55 (0, 0)) from by rw [← hY38]; exact setRow_heap X34 g35 _ _ 55 (0, 0) ZX34.out)
            have DY38 := hid (show Below wr.heap.size wr Y38 from by rw [← hY38]; exact setRow_below DX34.out yg35)
            have r39 := hid (KY38.out.row r36.out (fun e => n37.symm e))
            rw [hY38]
            refine hK.out _ _ ?_ (fun hHeld => ?_)
            · (try dsimp only); exact ⟨F0.out _ DY38.out, F1.out _ DY38.out⟩
            clear hK K hY38
            try simp only [lgA, lgB, lgC, Act.put, lsA, lsB, lsC]
            refine wpAnyH_ready (rs := [23]) (by kernel_rfl) (by simp) ?_
            refine (AllReadyH.cons rfl (fun K hK => ?_) AllReadyH.nil)
            refine step_store_row (by rfl) 55 (.tmp 20) (.tmp 169) (by rfl) g33 #[.int .i64 pp.qt, .int .u64 (hiW pp.co), .int .u64 (loW pp.co), .int .u64 (hiW pp.ga), .int .u64 (loW pp.ga)] (by rfl) (by rfl) 55 _ r39.out infoPo5 (by rfl) (by simp [Value.oneCell']) ?_
            obtain ⟨Y40, hY40⟩ : ∃ Y, Y38.setRow g33 #[.int .i64 pp.qt, .int .u64 (hiW pp.co), .int .u64 (loW pp.co), .int .u64 (hiW pp.ga), .int .u64 (loW pp.ga)] = Y := ⟨_, rfl⟩
            have KY40 := hid (show Kp (fun j => j = g33) Y38 Y40 from by rw [← hY40]; exact setRow_kp _ _ _)
            have AY40 := hid (show Y40.heap[g33]? = some (.cells #[.int .i64 pp.qt, .int .u64 (hiW pp.co), .int .u64 (loW pp.co), .int .u64 (hiW pp.ga), .int .u64 (loW pp.ga)] 55 (0, 0)) from by rw [← hY40]; exact setRow_heap Y38 g33 _ _ 55 (0, 0) r39.out)
            have DY40 := hid (show Below wr.heap.size wr Y40 from by rw [← hY40]; exact setRow_below DY38.out yg33)
            have r41 := hid (KY40.out.row AY38.out (fun e => n37 e))
            rw [hY40]
            refine hK.out _ _ ?_ (fun hHeld => ?_)
            · (try dsimp only); exact ⟨F0.out _ DY40.out, F1.out _ DY40.out⟩
            clear hK K hY40
            try simp only [lgA, lgB, lgC, Act.put, lsA, lsB, lsC]
            refine wpAnyH_done (by kernel_rfl) ?_ _
            obtain ⟨y0, y1, y2, y3, y4⟩ := po_cells r41.out
            obtain ⟨z0, z1, z2, z3, z4⟩ := po_cells AY40.out
            go_wp2_with (first | (go_at_call 15; with_reducible refine (CM1.out Y40).mono ?_; rintro e u2 ⟨rfl, hb⟩; have HB2 := hid (btr DY40.out hb); obtain ⟨s0, s1, s2, s3, s4⟩ := po_cells (row_on r41.out hb); obtain ⟨t0, t1, t2, t3, t4⟩ := po_cells (row_on AY40.out hb); clear hb) | (go_at_call 15; with_reducible refine (CM2.out u2).mono ?_; rintro e u3 ⟨rfl, hb⟩; have HB3 := hid (btr HB2.out hb); clear hb))
            go_roundw
            case rel => exact ⟨k + 1, hlk, by go_num, hid (btr HBW.out HB3.out)⟩
            case measure => simp [intOf]; omega
        · go_simp
          obtain ⟨X42, hX42⟩ : ∃ X, X20.alloc (.cells #[.int .i64 0, .int .u64 0, .int .u64 0, .int .u64 0, .int .u64 0] 55) = X := ⟨_, rfl⟩
          have bX42 : Below X20.heap.size X20 X42 := by rw [← hX42]; exact ball _ _
          have DX42 := hid (btr DX20.out bX42)
          have zX42 : X42.heap[X20.heap.size]? = some (.cells #[.int .i64 0, .int .u64 0, .int .u64 0, .int .u64 0, .int .u64 0] 55 (0, 0)) := by rw [← hX42]; exact World.alloc_heap_new _ _
          have yg43 := DX20.out.size
          obtain ⟨g43, hg43⟩ : ∃ g, X20.heap.size = g := ⟨_, rfl⟩
          rw [hg43] at zX42 yg43
          have ZX42 := hid zX42
          rw [hX42, hg43]
          clear hX42 hg43 zX42 bX42
          refine hK.out _ _ ?_ (fun hHeld => ?_)
          · (try dsimp only); exact ⟨F0.out _ DX42.out, F1.out _ DX42.out⟩
          clear hK K
          try simp only [lgA, lgB, lgC, Act.put, lsA, lsB, lsC]
          refine wpAnyH_ready (rs := [19, 21]) (by kernel_rfl) (by simp) ?_
          refine (AllReadyH.cons rfl (fun K hK => ?_) (AllReadyH.cons rfl (fun K hK => ?_) AllReadyH.nil))
          · go_simp
            go_at_call 18
            with_reducible refine (CPb.out X42 DX42.out).mono ?_
            rintro e X44 ⟨rfl, DbX44⟩
            have r45 := hid (row_on ZX42.out DbX44.out)
            have DX44 := hid (btr DX42.out DbX44.out)
            have UX44 := hid (DX42.out.size)
            (try go_wp2_with fail)
            refine hK.out _ _ ?_ (fun hHeld => ?_)
            · (try dsimp only); exact ⟨F0.out _ DX44.out, F1.out _ DX44.out⟩
            clear hK K
            try simp only [lgA, lgB, lgC, Act.put, lsA, lsB, lsC]
            refine wpAnyH_ready (rs := [21]) (by kernel_rfl) (by simp) ?_
            refine (AllReadyH.cons rfl (fun K hK => ?_) AllReadyH.nil)
            go_simp
            obtain ⟨X46, hX46⟩ : ∃ X, X44.alloc (.cells #[.int .i64 0, .int .u64 0, .int .u64 0, .int .u64 0, .int .u64 0] 55) = X := ⟨_, rfl⟩
            have bX46 : Below X44.heap.size X44 X46 := by rw [← hX46]; exact ball _ _
            have r48 := hid (row_on r45.out bX46)
            have DX46 := hid (btr DX44.out bX46)
            have zX46 : X46.heap[X44.heap.size]? = some (.cells #[.int .i64 0, .int .u64 0, .int .u64 0, .int .u64 0, .int .u64 0] 55 (0, 0)) := by rw [← hX46]; exact World.alloc_heap_new _ _
            have yg47 := DX44.out.size
            obtain ⟨g47, hg47⟩ : ∃ g, X44.heap.size = g := ⟨_, rfl⟩
            have n49 : g47 ≠ g43 := by have := row_lt r45.out; omega
            rw [hg47] at zX46 yg47
            have ZX46 := hid zX46
            rw [hX46, hg47]
            clear hX46 hg47 zX46 bX46
            refine hK.out _ _ ?_ (fun hHeld => ?_)
            · (try dsimp only); exact ⟨F0.out _ DX46.out, F1.out _ DX46.out⟩
            clear hK K
            try simp only [lgA, lgB, lgC, Act.put, lsA, lsB, lsC]
            refine wpAnyH_ready (rs := [22]) (by kernel_rfl) (by simp) ?_
            refine (AllReadyH.cons rfl (fun K hK => ?_) AllReadyH.nil)
            refine step_store_row (by rfl) 55 (.tmp 19) (.tmp 159) (by rfl) g43 #[.int .i64 pp.qt, .int .u64 (hiW pp.co), .int .u64 (loW pp.co), .int .u64 (hiW pp.ga), .int .u64 (loW pp.ga)] (by rfl) (by rfl) 55 _ r48.out infoPo5 (by rfl) (by simp [Value.oneCell']) ?_
            obtain ⟨Y50, hY50⟩ : ∃ Y, X46.setRow g43 #[.int .i64 pp.qt, .int .u64 (hiW pp.co), .int .u64 (loW pp.co), .int .u64 (hiW pp.ga), .int .u64 (loW pp.ga)] = Y := ⟨_, rfl⟩
            have KY50 := hid (show Kp (fun j => j = g43) X46 Y50 from by rw [← hY50]; exact setRow_kp _ _ _)
            have AY50 := hid (show Y50.heap[g43]? = some (.cells #[.int .i64 pp.qt, .int .u64 (hiW pp.co), .int .u64 (loW pp.co), .int .u64 (hiW pp.ga), .int .u64 (loW pp.ga)] 55 (0, 0)) from by rw [← hY50]; exact setRow_heap X46 g43 _ _ 55 (0, 0) r48.out)
            have DY50 := hid (show Below wr.heap.size wr Y50 from by rw [← hY50]; exact setRow_below DX46.out yg43)
            have r51 := hid (KY50.out.row ZX46.out (fun e => n49 e))
            rw [hY50]
            refine hK.out _ _ ?_ (fun hHeld => ?_)
            · (try dsimp only); exact ⟨F0.out _ DY50.out, F1.out _ DY50.out⟩
            clear hK K hY50
            try simp only [lgA, lgB, lgC, Act.put, lsA, lsB, lsC]
            refine wpAnyH_ready (rs := [23]) (by kernel_rfl) (by simp) ?_
            refine (AllReadyH.cons rfl (fun K hK => ?_) AllReadyH.nil)
            refine step_store_row (by rfl) 55 (.tmp 20) (.tmp 169) (by rfl) g47 #[.int .i64 pp.qt, .int .u64 (hiW pp.co), .int .u64 (loW pp.co), .int .u64 (hiW pp.ga), .int .u64 (loW pp.ga)] (by rfl) (by rfl) 55 _ r51.out infoPo5 (by rfl) (by simp [Value.oneCell']) ?_
            obtain ⟨Y52, hY52⟩ : ∃ Y, Y50.setRow g47 #[.int .i64 pp.qt, .int .u64 (hiW pp.co), .int .u64 (loW pp.co), .int .u64 (hiW pp.ga), .int .u64 (loW pp.ga)] = Y := ⟨_, rfl⟩
            have KY52 := hid (show Kp (fun j => j = g47) Y50 Y52 from by rw [← hY52]; exact setRow_kp _ _ _)
            have AY52 := hid (show Y52.heap[g47]? = some (.cells #[.int .i64 pp.qt, .int .u64 (hiW pp.co), .int .u64 (loW pp.co), .int .u64 (hiW pp.ga), .int .u64 (loW pp.ga)] 55 (0, 0)) from by rw [← hY52]; exact setRow_heap Y50 g47 _ _ 55 (0, 0) r51.out)
            have DY52 := hid (show Below wr.heap.size wr Y52 from by rw [← hY52]; exact setRow_below DY50.out yg47)
            have r53 := hid (KY52.out.row AY50.out (fun e => n49.symm e))
            rw [hY52]
            refine hK.out _ _ ?_ (fun hHeld => ?_)
            · (try dsimp only); exact ⟨F0.out _ DY52.out, F1.out _ DY52.out⟩
            clear hK K hY52
            try simp only [lgA, lgB, lgC, Act.put, lsA, lsB, lsC]
            refine wpAnyH_done (by kernel_rfl) ?_ _
            obtain ⟨y0, y1, y2, y3, y4⟩ := po_cells r53.out
            obtain ⟨z0, z1, z2, z3, z4⟩ := po_cells AY52.out
            go_wp2_with (first | (go_at_call 15; with_reducible refine (CM1.out Y52).mono ?_; rintro e u2 ⟨rfl, hb⟩; have HB2 := hid (btr DY52.out hb); obtain ⟨s0, s1, s2, s3, s4⟩ := po_cells (row_on r53.out hb); obtain ⟨t0, t1, t2, t3, t4⟩ := po_cells (row_on AY52.out hb); clear hb) | (go_at_call 15; with_reducible refine (CM2.out u2).mono ?_; rintro e u3 ⟨rfl, hb⟩; have HB3 := hid (btr HB2.out hb); clear hb))
            go_roundw
            case rel => exact ⟨k + 1, hlk, by go_num, hid (btr HBW.out HB3.out)⟩
            case measure => simp [intOf]; omega
          · go_simp
            obtain ⟨X54, hX54⟩ : ∃ X, X42.alloc (.cells #[.int .i64 0, .int .u64 0, .int .u64 0, .int .u64 0, .int .u64 0] 55) = X := ⟨_, rfl⟩
            have bX54 : Below X42.heap.size X42 X54 := by rw [← hX54]; exact ball _ _
            have r56 := hid (row_on ZX42.out bX54)
            have DX54 := hid (btr DX42.out bX54)
            have zX54 : X54.heap[X42.heap.size]? = some (.cells #[.int .i64 0, .int .u64 0, .int .u64 0, .int .u64 0, .int .u64 0] 55 (0, 0)) := by rw [← hX54]; exact World.alloc_heap_new _ _
            have yg55 := DX42.out.size
            obtain ⟨g55, hg55⟩ : ∃ g, X42.heap.size = g := ⟨_, rfl⟩
            have n57 : g55 ≠ g43 := by have := row_lt ZX42.out; omega
            rw [hg55] at zX54 yg55
            have ZX54 := hid zX54
            rw [hX54, hg55]
            clear hX54 hg55 zX54 bX54
            refine hK.out _ _ ?_ (fun hHeld => ?_)
            · (try dsimp only); exact ⟨F0.out _ DX54.out, F1.out _ DX54.out⟩
            clear hK K
            try simp only [lgA, lgB, lgC, Act.put, lsA, lsB, lsC]
            refine wpAnyH_ready (rs := [19]) (by kernel_rfl) (by simp) ?_
            refine (AllReadyH.cons rfl (fun K hK => ?_) AllReadyH.nil)
            go_simp
            go_at_call 18
            with_reducible refine (CPb.out X54 DX54.out).mono ?_
            rintro e X58 ⟨rfl, DbX58⟩
            have r59 := hid (row_on r56.out DbX58.out)
            have r60 := hid (row_on ZX54.out DbX58.out)
            have DX58 := hid (btr DX54.out DbX58.out)
            have UX58 := hid (DX54.out.size)
            (try go_wp2_with fail)
            refine hK.out _ _ ?_ (fun hHeld => ?_)
            · (try dsimp only); exact ⟨F0.out _ DX58.out, F1.out _ DX58.out⟩
            clear hK K
            try simp only [lgA, lgB, lgC, Act.put, lsA, lsB, lsC]
            refine wpAnyH_ready (rs := [22]) (by kernel_rfl) (by simp) ?_
            refine (AllReadyH.cons rfl (fun K hK => ?_) AllReadyH.nil)
            refine step_store_row (by rfl) 55 (.tmp 19) (.tmp 159) (by rfl) g43 #[.int .i64 pp.qt, .int .u64 (hiW pp.co), .int .u64 (loW pp.co), .int .u64 (hiW pp.ga), .int .u64 (loW pp.ga)] (by rfl) (by rfl) 55 _ r59.out infoPo5 (by rfl) (by simp [Value.oneCell']) ?_
            obtain ⟨Y61, hY61⟩ : ∃ Y, X58.setRow g43 #[.int .i64 pp.qt, .int .u64 (hiW pp.co), .int .u64 (loW pp.co), .int .u64 (hiW pp.ga), .int .u64 (loW pp.ga)] = Y := ⟨_, rfl⟩
            have KY61 := hid (show Kp (fun j => j = g43) X58 Y61 from by rw [← hY61]; exact setRow_kp _ _ _)
            have AY61 := hid (show Y61.heap[g43]? = some (.cells #[.int .i64 pp.qt, .int .u64 (hiW pp.co), .int .u64 (loW pp.co), .int .u64 (hiW pp.ga), .int .u64 (loW pp.ga)] 55 (0, 0)) from by rw [← hY61]; exact setRow_heap X58 g43 _ _ 55 (0, 0) r59.out)
            have DY61 := hid (show Below wr.heap.size wr Y61 from by rw [← hY61]; exact setRow_below DX58.out yg43)
            have r62 := hid (KY61.out.row r60.out (fun e => n57 e))
            rw [hY61]
            refine hK.out _ _ ?_ (fun hHeld => ?_)
            · (try dsimp only); exact ⟨F0.out _ DY61.out, F1.out _ DY61.out⟩
            clear hK K hY61
            try simp only [lgA, lgB, lgC, Act.put, lsA, lsB, lsC]
            refine wpAnyH_ready (rs := [23]) (by kernel_rfl) (by simp) ?_
            refine (AllReadyH.cons rfl (fun K hK => ?_) AllReadyH.nil)
            refine step_store_row (by rfl) 55 (.tmp 20) (.tmp 169) (by rfl) g55 #[.int .i64 pp.qt, .int .u64 (hiW pp.co), .int .u64 (loW pp.co), .int .u64 (hiW pp.ga), .int .u64 (loW pp.ga)] (by rfl) (by rfl) 55 _ r62.out infoPo5 (by rfl) (by simp [Value.oneCell']) ?_
            obtain ⟨Y63, hY63⟩ : ∃ Y, Y61.setRow g55 #[.int .i64 pp.qt, .int .u64 (hiW pp.co), .int .u64 (loW pp.co), .int .u64 (hiW pp.ga), .int .u64 (loW pp.ga)] = Y := ⟨_, rfl⟩
            have KY63 := hid (show Kp (fun j => j = g55) Y61 Y63 from by rw [← hY63]; exact setRow_kp _ _ _)
            have AY63 := hid (show Y63.heap[g55]? = some (.cells #[.int .i64 pp.qt, .int .u64 (hiW pp.co), .int .u64 (loW pp.co), .int .u64 (hiW pp.ga), .int .u64 (loW pp.ga)] 55 (0, 0)) from by rw [← hY63]; exact setRow_heap Y61 g55 _ _ 55 (0, 0) r62.out)
            have DY63 := hid (show Below wr.heap.size wr Y63 from by rw [← hY63]; exact setRow_below DY61.out yg55)
            have r64 := hid (KY63.out.row AY61.out (fun e => n57.symm e))
            rw [hY63]
            refine hK.out _ _ ?_ (fun hHeld => ?_)
            · (try dsimp only); exact ⟨F0.out _ DY63.out, F1.out _ DY63.out⟩
            clear hK K hY63
            try simp only [lgA, lgB, lgC, Act.put, lsA, lsB, lsC]
            refine wpAnyH_done (by kernel_rfl) ?_ _
            obtain ⟨y0, y1, y2, y3, y4⟩ := po_cells r64.out
            obtain ⟨z0, z1, z2, z3, z4⟩ := po_cells AY63.out
            go_wp2_with (first | (go_at_call 15; with_reducible refine (CM1.out Y63).mono ?_; rintro e u2 ⟨rfl, hb⟩; have HB2 := hid (btr DY63.out hb); obtain ⟨s0, s1, s2, s3, s4⟩ := po_cells (row_on r64.out hb); obtain ⟨t0, t1, t2, t3, t4⟩ := po_cells (row_on AY63.out hb); clear hb) | (go_at_call 15; with_reducible refine (CM2.out u2).mono ?_; rintro e u3 ⟨rfl, hb⟩; have HB3 := hid (btr HB2.out hb); clear hb))
            go_roundw
            case rel => exact ⟨k + 1, hlk, by go_num, hid (btr HBW.out HB3.out)⟩
            case measure => simp [intOf]; omega
        · go_simp
          obtain ⟨X65, hX65⟩ : ∃ X, X20.alloc (.cells #[.int .i64 0, .int .u64 0, .int .u64 0, .int .u64 0, .int .u64 0] 55) = X := ⟨_, rfl⟩
          have bX65 : Below X20.heap.size X20 X65 := by rw [← hX65]; exact ball _ _
          have DX65 := hid (btr DX20.out bX65)
          have zX65 : X65.heap[X20.heap.size]? = some (.cells #[.int .i64 0, .int .u64 0, .int .u64 0, .int .u64 0, .int .u64 0] 55 (0, 0)) := by rw [← hX65]; exact World.alloc_heap_new _ _
          have yg66 := DX20.out.size
          obtain ⟨g66, hg66⟩ : ∃ g, X20.heap.size = g := ⟨_, rfl⟩
          rw [hg66] at zX65 yg66
          have ZX65 := hid zX65
          rw [hX65, hg66]
          clear hX65 hg66 zX65 bX65
          refine hK.out _ _ ?_ (fun hHeld => ?_)
          · (try dsimp only); exact ⟨F0.out _ DX65.out, F1.out _ DX65.out⟩
          clear hK K
          try simp only [lgA, lgB, lgC, Act.put, lsA, lsB, lsC]
          refine wpAnyH_ready (rs := [19, 20]) (by kernel_rfl) (by simp) ?_
          refine (AllReadyH.cons rfl (fun K hK => ?_) (AllReadyH.cons rfl (fun K hK => ?_) AllReadyH.nil))
          · go_simp
            go_at_call 18
            with_reducible refine (CPb.out X65 DX65.out).mono ?_
            rintro e X67 ⟨rfl, DbX67⟩
            have r68 := hid (row_on ZX65.out DbX67.out)
            have DX67 := hid (btr DX65.out DbX67.out)
            have UX67 := hid (DX65.out.size)
            (try go_wp2_with fail)
            refine hK.out _ _ ?_ (fun hHeld => ?_)
            · (try dsimp only); exact ⟨F0.out _ DX67.out, F1.out _ DX67.out⟩
            clear hK K
            try simp only [lgA, lgB, lgC, Act.put, lsA, lsB, lsC]
            refine wpAnyH_ready (rs := [20]) (by kernel_rfl) (by simp) ?_
            refine (AllReadyH.cons rfl (fun K hK => ?_) AllReadyH.nil)
            go_simp
            obtain ⟨X69, hX69⟩ : ∃ X, X67.alloc (.cells #[.int .i64 0, .int .u64 0, .int .u64 0, .int .u64 0, .int .u64 0] 55) = X := ⟨_, rfl⟩
            have bX69 : Below X67.heap.size X67 X69 := by rw [← hX69]; exact ball _ _
            have r71 := hid (row_on r68.out bX69)
            have DX69 := hid (btr DX67.out bX69)
            have zX69 : X69.heap[X67.heap.size]? = some (.cells #[.int .i64 0, .int .u64 0, .int .u64 0, .int .u64 0, .int .u64 0] 55 (0, 0)) := by rw [← hX69]; exact World.alloc_heap_new _ _
            have yg70 := DX67.out.size
            obtain ⟨g70, hg70⟩ : ∃ g, X67.heap.size = g := ⟨_, rfl⟩
            have n72 : g70 ≠ g66 := by have := row_lt r68.out; omega
            rw [hg70] at zX69 yg70
            have ZX69 := hid zX69
            rw [hX69, hg70]
            clear hX69 hg70 zX69 bX69
            refine hK.out _ _ ?_ (fun hHeld => ?_)
            · (try dsimp only); exact ⟨F0.out _ DX69.out, F1.out _ DX69.out⟩
            clear hK K
            try simp only [lgA, lgB, lgC, Act.put, lsA, lsB, lsC]
            refine wpAnyH_ready (rs := [22]) (by kernel_rfl) (by simp) ?_
            refine (AllReadyH.cons rfl (fun K hK => ?_) AllReadyH.nil)
            refine step_store_row (by rfl) 55 (.tmp 19) (.tmp 159) (by rfl) g70 #[.int .i64 pp.qt, .int .u64 (hiW pp.co), .int .u64 (loW pp.co), .int .u64 (hiW pp.ga), .int .u64 (loW pp.ga)] (by rfl) (by rfl) 55 _ ZX69.out infoPo5 (by rfl) (by simp [Value.oneCell']) ?_
            obtain ⟨Y73, hY73⟩ : ∃ Y, X69.setRow g70 #[.int .i64 pp.qt, .int .u64 (hiW pp.co), .int .u64 (loW pp.co), .int .u64 (hiW pp.ga), .int .u64 (loW pp.ga)] = Y := ⟨_, rfl⟩
            have KY73 := hid (show Kp (fun j => j = g70) X69 Y73 from by rw [← hY73]; exact setRow_kp _ _ _)
            have AY73 := hid (show Y73.heap[g70]? = some (.cells #[.int .i64 pp.qt, .int .u64 (hiW pp.co), .int .u64 (loW pp.co), .int .u64 (hiW pp.ga), .int .u64 (loW pp.ga)] 55 (0, 0)) from by rw [← hY73]; exact setRow_heap X69 g70 _ _ 55 (0, 0) ZX69.out)
            have DY73 := hid (show Below wr.heap.size wr Y73 from by rw [← hY73]; exact setRow_below DX69.out yg70)
            have r74 := hid (KY73.out.row r71.out (fun e => n72.symm e))
            rw [hY73]
            refine hK.out _ _ ?_ (fun hHeld => ?_)
            · (try dsimp only); exact ⟨F0.out _ DY73.out, F1.out _ DY73.out⟩
            clear hK K hY73
            try simp only [lgA, lgB, lgC, Act.put, lsA, lsB, lsC]
            refine wpAnyH_ready (rs := [23]) (by kernel_rfl) (by simp) ?_
            refine (AllReadyH.cons rfl (fun K hK => ?_) AllReadyH.nil)
            refine step_store_row (by rfl) 55 (.tmp 20) (.tmp 169) (by rfl) g66 #[.int .i64 pp.qt, .int .u64 (hiW pp.co), .int .u64 (loW pp.co), .int .u64 (hiW pp.ga), .int .u64 (loW pp.ga)] (by rfl) (by rfl) 55 _ r74.out infoPo5 (by rfl) (by simp [Value.oneCell']) ?_
            obtain ⟨Y75, hY75⟩ : ∃ Y, Y73.setRow g66 #[.int .i64 pp.qt, .int .u64 (hiW pp.co), .int .u64 (loW pp.co), .int .u64 (hiW pp.ga), .int .u64 (loW pp.ga)] = Y := ⟨_, rfl⟩
            have KY75 := hid (show Kp (fun j => j = g66) Y73 Y75 from by rw [← hY75]; exact setRow_kp _ _ _)
            have AY75 := hid (show Y75.heap[g66]? = some (.cells #[.int .i64 pp.qt, .int .u64 (hiW pp.co), .int .u64 (loW pp.co), .int .u64 (hiW pp.ga), .int .u64 (loW pp.ga)] 55 (0, 0)) from by rw [← hY75]; exact setRow_heap Y73 g66 _ _ 55 (0, 0) r74.out)
            have DY75 := hid (show Below wr.heap.size wr Y75 from by rw [← hY75]; exact setRow_below DY73.out yg66)
            have r76 := hid (KY75.out.row AY73.out (fun e => n72 e))
            rw [hY75]
            refine hK.out _ _ ?_ (fun hHeld => ?_)
            · (try dsimp only); exact ⟨F0.out _ DY75.out, F1.out _ DY75.out⟩
            clear hK K hY75
            try simp only [lgA, lgB, lgC, Act.put, lsA, lsB, lsC]
            refine wpAnyH_done (by kernel_rfl) ?_ _
            obtain ⟨y0, y1, y2, y3, y4⟩ := po_cells r76.out
            obtain ⟨z0, z1, z2, z3, z4⟩ := po_cells AY75.out
            go_wp2_with (first | (go_at_call 15; with_reducible refine (CM1.out Y75).mono ?_; rintro e u2 ⟨rfl, hb⟩; have HB2 := hid (btr DY75.out hb); obtain ⟨s0, s1, s2, s3, s4⟩ := po_cells (row_on r76.out hb); obtain ⟨t0, t1, t2, t3, t4⟩ := po_cells (row_on AY75.out hb); clear hb) | (go_at_call 15; with_reducible refine (CM2.out u2).mono ?_; rintro e u3 ⟨rfl, hb⟩; have HB3 := hid (btr HB2.out hb); clear hb))
            go_roundw
            case rel => exact ⟨k + 1, hlk, by go_num, hid (btr HBW.out HB3.out)⟩
            case measure => simp [intOf]; omega
          · go_simp
            obtain ⟨X77, hX77⟩ : ∃ X, X65.alloc (.cells #[.int .i64 0, .int .u64 0, .int .u64 0, .int .u64 0, .int .u64 0] 55) = X := ⟨_, rfl⟩
            have bX77 : Below X65.heap.size X65 X77 := by rw [← hX77]; exact ball _ _
            have r79 := hid (row_on ZX65.out bX77)
            have DX77 := hid (btr DX65.out bX77)
            have zX77 : X77.heap[X65.heap.size]? = some (.cells #[.int .i64 0, .int .u64 0, .int .u64 0, .int .u64 0, .int .u64 0] 55 (0, 0)) := by rw [← hX77]; exact World.alloc_heap_new _ _
            have yg78 := DX65.out.size
            obtain ⟨g78, hg78⟩ : ∃ g, X65.heap.size = g := ⟨_, rfl⟩
            have n80 : g78 ≠ g66 := by have := row_lt ZX65.out; omega
            rw [hg78] at zX77 yg78
            have ZX77 := hid zX77
            rw [hX77, hg78]
            clear hX77 hg78 zX77 bX77
            refine hK.out _ _ ?_ (fun hHeld => ?_)
            · (try dsimp only); exact ⟨F0.out _ DX77.out, F1.out _ DX77.out⟩
            clear hK K
            try simp only [lgA, lgB, lgC, Act.put, lsA, lsB, lsC]
            refine wpAnyH_ready (rs := [19]) (by kernel_rfl) (by simp) ?_
            refine (AllReadyH.cons rfl (fun K hK => ?_) AllReadyH.nil)
            go_simp
            go_at_call 18
            with_reducible refine (CPb.out X77 DX77.out).mono ?_
            rintro e X81 ⟨rfl, DbX81⟩
            have r82 := hid (row_on r79.out DbX81.out)
            have r83 := hid (row_on ZX77.out DbX81.out)
            have DX81 := hid (btr DX77.out DbX81.out)
            have UX81 := hid (DX77.out.size)
            (try go_wp2_with fail)
            refine hK.out _ _ ?_ (fun hHeld => ?_)
            · (try dsimp only); exact ⟨F0.out _ DX81.out, F1.out _ DX81.out⟩
            clear hK K
            try simp only [lgA, lgB, lgC, Act.put, lsA, lsB, lsC]
            refine wpAnyH_ready (rs := [22]) (by kernel_rfl) (by simp) ?_
            refine (AllReadyH.cons rfl (fun K hK => ?_) AllReadyH.nil)
            refine step_store_row (by rfl) 55 (.tmp 19) (.tmp 159) (by rfl) g78 #[.int .i64 pp.qt, .int .u64 (hiW pp.co), .int .u64 (loW pp.co), .int .u64 (hiW pp.ga), .int .u64 (loW pp.ga)] (by rfl) (by rfl) 55 _ r83.out infoPo5 (by rfl) (by simp [Value.oneCell']) ?_
            obtain ⟨Y84, hY84⟩ : ∃ Y, X81.setRow g78 #[.int .i64 pp.qt, .int .u64 (hiW pp.co), .int .u64 (loW pp.co), .int .u64 (hiW pp.ga), .int .u64 (loW pp.ga)] = Y := ⟨_, rfl⟩
            have KY84 := hid (show Kp (fun j => j = g78) X81 Y84 from by rw [← hY84]; exact setRow_kp _ _ _)
            have AY84 := hid (show Y84.heap[g78]? = some (.cells #[.int .i64 pp.qt, .int .u64 (hiW pp.co), .int .u64 (loW pp.co), .int .u64 (hiW pp.ga), .int .u64 (loW pp.ga)] 55 (0, 0)) from by rw [← hY84]; exact setRow_heap X81 g78 _ _ 55 (0, 0) r83.out)
            have DY84 := hid (show Below wr.heap.size wr Y84 from by rw [← hY84]; exact setRow_below DX81.out yg78)
            have r85 := hid (KY84.out.row r82.out (fun e => n80.symm e))
            rw [hY84]
            refine hK.out _ _ ?_ (fun hHeld => ?_)
            · (try dsimp only); exact ⟨F0.out _ DY84.out, F1.out _ DY84.out⟩
            clear hK K hY84
            try simp only [lgA, lgB, lgC, Act.put, lsA, lsB, lsC]
            refine wpAnyH_ready (rs := [23]) (by kernel_rfl) (by simp) ?_
            refine (AllReadyH.cons rfl (fun K hK => ?_) AllReadyH.nil)
            refine step_store_row (by rfl) 55 (.tmp 20) (.tmp 169) (by rfl) g66 #[.int .i64 pp.qt, .int .u64 (hiW pp.co), .int .u64 (loW pp.co), .int .u64 (hiW pp.ga), .int .u64 (loW pp.ga)] (by rfl) (by rfl) 55 _ r85.out infoPo5 (by rfl) (by simp [Value.oneCell']) ?_
            obtain ⟨Y86, hY86⟩ : ∃ Y, Y84.setRow g66 #[.int .i64 pp.qt, .int .u64 (hiW pp.co), .int .u64 (loW pp.co), .int .u64 (hiW pp.ga), .int .u64 (loW pp.ga)] = Y := ⟨_, rfl⟩
            have KY86 := hid (show Kp (fun j => j = g66) Y84 Y86 from by rw [← hY86]; exact setRow_kp _ _ _)
            have AY86 := hid (show Y86.heap[g66]? = some (.cells #[.int .i64 pp.qt, .int .u64 (hiW pp.co), .int .u64 (loW pp.co), .int .u64 (hiW pp.ga), .int .u64 (loW pp.ga)] 55 (0, 0)) from by rw [← hY86]; exact setRow_heap Y84 g66 _ _ 55 (0, 0) r85.out)
            have DY86 := hid (show Below wr.heap.size wr Y86 from by rw [← hY86]; exact setRow_below DY84.out yg66)
            have r87 := hid (KY86.out.row AY84.out (fun e => n80 e))
            rw [hY86]
            refine hK.out _ _ ?_ (fun hHeld => ?_)
            · (try dsimp only); exact ⟨F0.out _ DY86.out, F1.out _ DY86.out⟩
            clear hK K hY86
            try simp only [lgA, lgB, lgC, Act.put, lsA, lsB, lsC]
            refine wpAnyH_done (by kernel_rfl) ?_ _
            obtain ⟨y0, y1, y2, y3, y4⟩ := po_cells r87.out
            obtain ⟨z0, z1, z2, z3, z4⟩ := po_cells AY86.out
            go_wp2_with (first | (go_at_call 15; with_reducible refine (CM1.out Y86).mono ?_; rintro e u2 ⟨rfl, hb⟩; have HB2 := hid (btr DY86.out hb); obtain ⟨s0, s1, s2, s3, s4⟩ := po_cells (row_on r87.out hb); obtain ⟨t0, t1, t2, t3, t4⟩ := po_cells (row_on AY86.out hb); clear hb) | (go_at_call 15; with_reducible refine (CM2.out u2).mono ?_; rintro e u3 ⟨rfl, hb⟩; have HB3 := hid (btr HB2.out hb); clear hb))
            go_roundw
            case rel => exact ⟨k + 1, hlk, by go_num, hid (btr HBW.out HB3.out)⟩
            case measure => simp [intOf]; omega
      · go_simp
        obtain ⟨X88, hX88⟩ : ∃ X, V19.alloc (.cells #[.int .i64 0, .int .u64 0, .int .u64 0, .int .u64 0, .int .u64 0] 55) = X := ⟨_, rfl⟩
        have bX88 : Below V19.heap.size V19 X88 := by rw [← hX88]; exact ball _ _
        have DX88 := hid (btr BV19.out bX88)
        have zX88 : X88.heap[V19.heap.size]? = some (.cells #[.int .i64 0, .int .u64 0, .int .u64 0, .int .u64 0, .int .u64 0] 55 (0, 0)) := by rw [← hX88]; exact World.alloc_heap_new _ _
        have yg89 := BV19.out.size
        obtain ⟨g89, hg89⟩ : ∃ g, V19.heap.size = g := ⟨_, rfl⟩
        rw [hg89] at zX88 yg89
        have ZX88 := hid zX88
        rw [hX88, hg89]
        clear hX88 hg89 zX88 bX88
        refine hK.out _ _ ?_ (fun hHeld => ?_)
        · (try dsimp only); exact ⟨F0.out _ DX88.out, F1.out _ DX88.out⟩
        clear hK K
        try simp only [lgA, lgB, lgC, Act.put, lsA, lsB, lsC]
        refine wpAnyH_ready (rs := [9, 21]) (by kernel_rfl) (by simp) ?_
        refine (AllReadyH.cons rfl (fun K hK => ?_) (AllReadyH.cons rfl (fun K hK => ?_) AllReadyH.nil))
        · go_simp
          go_at_call 18
          with_reducible refine (CPa.out X88 DX88.out).mono ?_
          rintro e X90 ⟨rfl, DbX90⟩
          have r91 := hid (row_on ZX88.out DbX90.out)
          have DX90 := hid (btr DX88.out DbX90.out)
          have UX90 := hid (DX88.out.size)
          (try go_wp2_with fail)
          refine hK.out _ _ ?_ (fun hHeld => ?_)
          · (try dsimp only); exact ⟨F0.out _ DX90.out, F1.out _ DX90.out⟩
          clear hK K
          try simp only [lgA, lgB, lgC, Act.put, lsA, lsB, lsC]
          refine wpAnyH_ready (rs := [19, 21]) (by kernel_rfl) (by simp) ?_
          refine (AllReadyH.cons rfl (fun K hK => ?_) (AllReadyH.cons rfl (fun K hK => ?_) AllReadyH.nil))
          · go_simp
            go_at_call 18
            with_reducible refine (CPb.out X90 DX90.out).mono ?_
            rintro e X92 ⟨rfl, DbX92⟩
            have r93 := hid (row_on r91.out DbX92.out)
            have DX92 := hid (btr DX90.out DbX92.out)
            have UX92 := hid (DX90.out.size)
            (try go_wp2_with fail)
            refine hK.out _ _ ?_ (fun hHeld => ?_)
            · (try dsimp only); exact ⟨F0.out _ DX92.out, F1.out _ DX92.out⟩
            clear hK K
            try simp only [lgA, lgB, lgC, Act.put, lsA, lsB, lsC]
            refine wpAnyH_ready (rs := [21]) (by kernel_rfl) (by simp) ?_
            refine (AllReadyH.cons rfl (fun K hK => ?_) AllReadyH.nil)
            go_simp
            obtain ⟨X94, hX94⟩ : ∃ X, X92.alloc (.cells #[.int .i64 0, .int .u64 0, .int .u64 0, .int .u64 0, .int .u64 0] 55) = X := ⟨_, rfl⟩
            have bX94 : Below X92.heap.size X92 X94 := by rw [← hX94]; exact ball _ _
            have r96 := hid (row_on r93.out bX94)
            have DX94 := hid (btr DX92.out bX94)
            have zX94 : X94.heap[X92.heap.size]? = some (.cells #[.int .i64 0, .int .u64 0, .int .u64 0, .int .u64 0, .int .u64 0] 55 (0, 0)) := by rw [← hX94]; exact World.alloc_heap_new _ _
            have yg95 := DX92.out.size
            obtain ⟨g95, hg95⟩ : ∃ g, X92.heap.size = g := ⟨_, rfl⟩
            have n97 : g95 ≠ g89 := by have := row_lt r93.out; omega
            rw [hg95] at zX94 yg95
            have ZX94 := hid zX94
            rw [hX94, hg95]
            clear hX94 hg95 zX94 bX94
            refine hK.out _ _ ?_ (fun hHeld => ?_)
            · (try dsimp only); exact ⟨F0.out _ DX94.out, F1.out _ DX94.out⟩
            clear hK K
            try simp only [lgA, lgB, lgC, Act.put, lsA, lsB, lsC]
            refine wpAnyH_ready (rs := [22]) (by kernel_rfl) (by simp) ?_
            refine (AllReadyH.cons rfl (fun K hK => ?_) AllReadyH.nil)
            refine step_store_row (by rfl) 55 (.tmp 19) (.tmp 159) (by rfl) g89 #[.int .i64 pp.qt, .int .u64 (hiW pp.co), .int .u64 (loW pp.co), .int .u64 (hiW pp.ga), .int .u64 (loW pp.ga)] (by rfl) (by rfl) 55 _ r96.out infoPo5 (by rfl) (by simp [Value.oneCell']) ?_
            obtain ⟨Y98, hY98⟩ : ∃ Y, X94.setRow g89 #[.int .i64 pp.qt, .int .u64 (hiW pp.co), .int .u64 (loW pp.co), .int .u64 (hiW pp.ga), .int .u64 (loW pp.ga)] = Y := ⟨_, rfl⟩
            have KY98 := hid (show Kp (fun j => j = g89) X94 Y98 from by rw [← hY98]; exact setRow_kp _ _ _)
            have AY98 := hid (show Y98.heap[g89]? = some (.cells #[.int .i64 pp.qt, .int .u64 (hiW pp.co), .int .u64 (loW pp.co), .int .u64 (hiW pp.ga), .int .u64 (loW pp.ga)] 55 (0, 0)) from by rw [← hY98]; exact setRow_heap X94 g89 _ _ 55 (0, 0) r96.out)
            have DY98 := hid (show Below wr.heap.size wr Y98 from by rw [← hY98]; exact setRow_below DX94.out yg89)
            have r99 := hid (KY98.out.row ZX94.out (fun e => n97 e))
            rw [hY98]
            refine hK.out _ _ ?_ (fun hHeld => ?_)
            · (try dsimp only); exact ⟨F0.out _ DY98.out, F1.out _ DY98.out⟩
            clear hK K hY98
            try simp only [lgA, lgB, lgC, Act.put, lsA, lsB, lsC]
            refine wpAnyH_ready (rs := [23]) (by kernel_rfl) (by simp) ?_
            refine (AllReadyH.cons rfl (fun K hK => ?_) AllReadyH.nil)
            refine step_store_row (by rfl) 55 (.tmp 20) (.tmp 169) (by rfl) g95 #[.int .i64 pp.qt, .int .u64 (hiW pp.co), .int .u64 (loW pp.co), .int .u64 (hiW pp.ga), .int .u64 (loW pp.ga)] (by rfl) (by rfl) 55 _ r99.out infoPo5 (by rfl) (by simp [Value.oneCell']) ?_
            obtain ⟨Y100, hY100⟩ : ∃ Y, Y98.setRow g95 #[.int .i64 pp.qt, .int .u64 (hiW pp.co), .int .u64 (loW pp.co), .int .u64 (hiW pp.ga), .int .u64 (loW pp.ga)] = Y := ⟨_, rfl⟩
            have KY100 := hid (show Kp (fun j => j = g95) Y98 Y100 from by rw [← hY100]; exact setRow_kp _ _ _)
            have AY100 := hid (show Y100.heap[g95]? = some (.cells #[.int .i64 pp.qt, .int .u64 (hiW pp.co), .int .u64 (loW pp.co), .int .u64 (hiW pp.ga), .int .u64 (loW pp.ga)] 55 (0, 0)) from by rw [← hY100]; exact setRow_heap Y98 g95 _ _ 55 (0, 0) r99.out)
            have DY100 := hid (show Below wr.heap.size wr Y100 from by rw [← hY100]; exact setRow_below DY98.out yg95)
            have r101 := hid (KY100.out.row AY98.out (fun e => n97.symm e))
            rw [hY100]
            refine hK.out _ _ ?_ (fun hHeld => ?_)
            · (try dsimp only); exact ⟨F0.out _ DY100.out, F1.out _ DY100.out⟩
            clear hK K hY100
            try simp only [lgA, lgB, lgC, Act.put, lsA, lsB, lsC]
            refine wpAnyH_done (by kernel_rfl) ?_ _
            obtain ⟨y0, y1, y2, y3, y4⟩ := po_cells r101.out
            obtain ⟨z0, z1, z2, z3, z4⟩ := po_cells AY100.out
            go_wp2_with (first | (go_at_call 15; with_reducible refine (CM1.out Y100).mono ?_; rintro e u2 ⟨rfl, hb⟩; have HB2 := hid (btr DY100.out hb); obtain ⟨s0, s1, s2, s3, s4⟩ := po_cells (row_on r101.out hb); obtain ⟨t0, t1, t2, t3, t4⟩ := po_cells (row_on AY100.out hb); clear hb) | (go_at_call 15; with_reducible refine (CM2.out u2).mono ?_; rintro e u3 ⟨rfl, hb⟩; have HB3 := hid (btr HB2.out hb); clear hb))
            go_roundw
            case rel => exact ⟨k + 1, hlk, by go_num, hid (btr HBW.out HB3.out)⟩
            case measure => simp [intOf]; omega
          · go_simp
            obtain ⟨X102, hX102⟩ : ∃ X, X90.alloc (.cells #[.int .i64 0, .int .u64 0, .int .u64 0, .int .u64 0, .int .u64 0] 55) = X := ⟨_, rfl⟩
            have bX102 : Below X90.heap.size X90 X102 := by rw [← hX102]; exact ball _ _
            have r104 := hid (row_on r91.out bX102)
            have DX102 := hid (btr DX90.out bX102)
            have zX102 : X102.heap[X90.heap.size]? = some (.cells #[.int .i64 0, .int .u64 0, .int .u64 0, .int .u64 0, .int .u64 0] 55 (0, 0)) := by rw [← hX102]; exact World.alloc_heap_new _ _
            have yg103 := DX90.out.size
            obtain ⟨g103, hg103⟩ : ∃ g, X90.heap.size = g := ⟨_, rfl⟩
            have n105 : g103 ≠ g89 := by have := row_lt r91.out; omega
            rw [hg103] at zX102 yg103
            have ZX102 := hid zX102
            rw [hX102, hg103]
            clear hX102 hg103 zX102 bX102
            refine hK.out _ _ ?_ (fun hHeld => ?_)
            · (try dsimp only); exact ⟨F0.out _ DX102.out, F1.out _ DX102.out⟩
            clear hK K
            try simp only [lgA, lgB, lgC, Act.put, lsA, lsB, lsC]
            refine wpAnyH_ready (rs := [19]) (by kernel_rfl) (by simp) ?_
            refine (AllReadyH.cons rfl (fun K hK => ?_) AllReadyH.nil)
            go_simp
            go_at_call 18
            with_reducible refine (CPb.out X102 DX102.out).mono ?_
            rintro e X106 ⟨rfl, DbX106⟩
            have r107 := hid (row_on r104.out DbX106.out)
            have r108 := hid (row_on ZX102.out DbX106.out)
            have DX106 := hid (btr DX102.out DbX106.out)
            have UX106 := hid (DX102.out.size)
            (try go_wp2_with fail)
            refine hK.out _ _ ?_ (fun hHeld => ?_)
            · (try dsimp only); exact ⟨F0.out _ DX106.out, F1.out _ DX106.out⟩
            clear hK K
            try simp only [lgA, lgB, lgC, Act.put, lsA, lsB, lsC]
            refine wpAnyH_ready (rs := [22]) (by kernel_rfl) (by simp) ?_
            refine (AllReadyH.cons rfl (fun K hK => ?_) AllReadyH.nil)
            refine step_store_row (by rfl) 55 (.tmp 19) (.tmp 159) (by rfl) g89 #[.int .i64 pp.qt, .int .u64 (hiW pp.co), .int .u64 (loW pp.co), .int .u64 (hiW pp.ga), .int .u64 (loW pp.ga)] (by rfl) (by rfl) 55 _ r107.out infoPo5 (by rfl) (by simp [Value.oneCell']) ?_
            obtain ⟨Y109, hY109⟩ : ∃ Y, X106.setRow g89 #[.int .i64 pp.qt, .int .u64 (hiW pp.co), .int .u64 (loW pp.co), .int .u64 (hiW pp.ga), .int .u64 (loW pp.ga)] = Y := ⟨_, rfl⟩
            have KY109 := hid (show Kp (fun j => j = g89) X106 Y109 from by rw [← hY109]; exact setRow_kp _ _ _)
            have AY109 := hid (show Y109.heap[g89]? = some (.cells #[.int .i64 pp.qt, .int .u64 (hiW pp.co), .int .u64 (loW pp.co), .int .u64 (hiW pp.ga), .int .u64 (loW pp.ga)] 55 (0, 0)) from by rw [← hY109]; exact setRow_heap X106 g89 _ _ 55 (0, 0) r107.out)
            have DY109 := hid (show Below wr.heap.size wr Y109 from by rw [← hY109]; exact setRow_below DX106.out yg89)
            have r110 := hid (KY109.out.row r108.out (fun e => n105 e))
            rw [hY109]
            refine hK.out _ _ ?_ (fun hHeld => ?_)
            · (try dsimp only); exact ⟨F0.out _ DY109.out, F1.out _ DY109.out⟩
            clear hK K hY109
            try simp only [lgA, lgB, lgC, Act.put, lsA, lsB, lsC]
            refine wpAnyH_ready (rs := [23]) (by kernel_rfl) (by simp) ?_
            refine (AllReadyH.cons rfl (fun K hK => ?_) AllReadyH.nil)
            refine step_store_row (by rfl) 55 (.tmp 20) (.tmp 169) (by rfl) g103 #[.int .i64 pp.qt, .int .u64 (hiW pp.co), .int .u64 (loW pp.co), .int .u64 (hiW pp.ga), .int .u64 (loW pp.ga)] (by rfl) (by rfl) 55 _ r110.out infoPo5 (by rfl) (by simp [Value.oneCell']) ?_
            obtain ⟨Y111, hY111⟩ : ∃ Y, Y109.setRow g103 #[.int .i64 pp.qt, .int .u64 (hiW pp.co), .int .u64 (loW pp.co), .int .u64 (hiW pp.ga), .int .u64 (loW pp.ga)] = Y := ⟨_, rfl⟩
            have KY111 := hid (show Kp (fun j => j = g103) Y109 Y111 from by rw [← hY111]; exact setRow_kp _ _ _)
            have AY111 := hid (show Y111.heap[g103]? = some (.cells #[.int .i64 pp.qt, .int .u64 (hiW pp.co), .int .u64 (loW pp.co), .int .u64 (hiW pp.ga), .int .u64 (loW pp.ga)] 55 (0, 0)) from by rw [← hY111]; exact setRow_heap Y109 g103 _ _ 55 (0, 0) r110.out)
            have DY111 := hid (show Below wr.heap.size wr Y111 from by rw [← hY111]; exact setRow_below DY109.out yg103)
            have r112 := hid (KY111.out.row AY109.out (fun e => n105.symm e))
            rw [hY111]
            refine hK.out _ _ ?_ (fun hHeld => ?_)
            · (try dsimp only); exact ⟨F0.out _ DY111.out, F1.out _ DY111.out⟩
            clear hK K hY111
            try simp only [lgA, lgB, lgC, Act.put, lsA, lsB, lsC]
            refine wpAnyH_done (by kernel_rfl) ?_ _
            obtain ⟨y0, y1, y2, y3, y4⟩ := po_cells r112.out
            obtain ⟨z0, z1, z2, z3, z4⟩ := po_cells AY111.out
            go_wp2_with (first | (go_at_call 15; with_reducible refine (CM1.out Y111).mono ?_; rintro e u2 ⟨rfl, hb⟩; have HB2 := hid (btr DY111.out hb); obtain ⟨s0, s1, s2, s3, s4⟩ := po_cells (row_on r112.out hb); obtain ⟨t0, t1, t2, t3, t4⟩ := po_cells (row_on AY111.out hb); clear hb) | (go_at_call 15; with_reducible refine (CM2.out u2).mono ?_; rintro e u3 ⟨rfl, hb⟩; have HB3 := hid (btr HB2.out hb); clear hb))
            go_roundw
            case rel => exact ⟨k + 1, hlk, by go_num, hid (btr HBW.out HB3.out)⟩
            case measure => simp [intOf]; omega
        · go_simp
          obtain ⟨X113, hX113⟩ : ∃ X, X88.alloc (.cells #[.int .i64 0, .int .u64 0, .int .u64 0, .int .u64 0, .int .u64 0] 55) = X := ⟨_, rfl⟩
          have bX113 : Below X88.heap.size X88 X113 := by rw [← hX113]; exact ball _ _
          have r115 := hid (row_on ZX88.out bX113)
          have DX113 := hid (btr DX88.out bX113)
          have zX113 : X113.heap[X88.heap.size]? = some (.cells #[.int .i64 0, .int .u64 0, .int .u64 0, .int .u64 0, .int .u64 0] 55 (0, 0)) := by rw [← hX113]; exact World.alloc_heap_new _ _
          have yg114 := DX88.out.size
          obtain ⟨g114, hg114⟩ : ∃ g, X88.heap.size = g := ⟨_, rfl⟩
          have n116 : g114 ≠ g89 := by have := row_lt ZX88.out; omega
          rw [hg114] at zX113 yg114
          have ZX113 := hid zX113
          rw [hX113, hg114]
          clear hX113 hg114 zX113 bX113
          refine hK.out _ _ ?_ (fun hHeld => ?_)
          · (try dsimp only); exact ⟨F0.out _ DX113.out, F1.out _ DX113.out⟩
          clear hK K
          try simp only [lgA, lgB, lgC, Act.put, lsA, lsB, lsC]
          refine wpAnyH_ready (rs := [9]) (by kernel_rfl) (by simp) ?_
          refine (AllReadyH.cons rfl (fun K hK => ?_) AllReadyH.nil)
          go_simp
          go_at_call 18
          with_reducible refine (CPa.out X113 DX113.out).mono ?_
          rintro e X117 ⟨rfl, DbX117⟩
          have r118 := hid (row_on r115.out DbX117.out)
          have r119 := hid (row_on ZX113.out DbX117.out)
          have DX117 := hid (btr DX113.out DbX117.out)
          have UX117 := hid (DX113.out.size)
          (try go_wp2_with fail)
          refine hK.out _ _ ?_ (fun hHeld => ?_)
          · (try dsimp only); exact ⟨F0.out _ DX117.out, F1.out _ DX117.out⟩
          clear hK K
          try simp only [lgA, lgB, lgC, Act.put, lsA, lsB, lsC]
          refine wpAnyH_ready (rs := [19]) (by kernel_rfl) (by simp) ?_
          refine (AllReadyH.cons rfl (fun K hK => ?_) AllReadyH.nil)
          go_simp
          go_at_call 18
          with_reducible refine (CPb.out X117 DX117.out).mono ?_
          rintro e X120 ⟨rfl, DbX120⟩
          have r121 := hid (row_on r118.out DbX120.out)
          have r122 := hid (row_on r119.out DbX120.out)
          have DX120 := hid (btr DX117.out DbX120.out)
          have UX120 := hid (DX117.out.size)
          (try go_wp2_with fail)
          refine hK.out _ _ ?_ (fun hHeld => ?_)
          · (try dsimp only); exact ⟨F0.out _ DX120.out, F1.out _ DX120.out⟩
          clear hK K
          try simp only [lgA, lgB, lgC, Act.put, lsA, lsB, lsC]
          refine wpAnyH_ready (rs := [22]) (by kernel_rfl) (by simp) ?_
          refine (AllReadyH.cons rfl (fun K hK => ?_) AllReadyH.nil)
          refine step_store_row (by rfl) 55 (.tmp 19) (.tmp 159) (by rfl) g89 #[.int .i64 pp.qt, .int .u64 (hiW pp.co), .int .u64 (loW pp.co), .int .u64 (hiW pp.ga), .int .u64 (loW pp.ga)] (by rfl) (by rfl) 55 _ r121.out infoPo5 (by rfl) (by simp [Value.oneCell']) ?_
          obtain ⟨Y123, hY123⟩ : ∃ Y, X120.setRow g89 #[.int .i64 pp.qt, .int .u64 (hiW pp.co), .int .u64 (loW pp.co), .int .u64 (hiW pp.ga), .int .u64 (loW pp.ga)] = Y := ⟨_, rfl⟩
          have KY123 := hid (show Kp (fun j => j = g89) X120 Y123 from by rw [← hY123]; exact setRow_kp _ _ _)
          have AY123 := hid (show Y123.heap[g89]? = some (.cells #[.int .i64 pp.qt, .int .u64 (hiW pp.co), .int .u64 (loW pp.co), .int .u64 (hiW pp.ga), .int .u64 (loW pp.ga)] 55 (0, 0)) from by rw [← hY123]; exact setRow_heap X120 g89 _ _ 55 (0, 0) r121.out)
          have DY123 := hid (show Below wr.heap.size wr Y123 from by rw [← hY123]; exact setRow_below DX120.out yg89)
          have r124 := hid (KY123.out.row r122.out (fun e => n116 e))
          rw [hY123]
          refine hK.out _ _ ?_ (fun hHeld => ?_)
          · (try dsimp only); exact ⟨F0.out _ DY123.out, F1.out _ DY123.out⟩
          clear hK K hY123
          try simp only [lgA, lgB, lgC, Act.put, lsA, lsB, lsC]
          refine wpAnyH_ready (rs := [23]) (by kernel_rfl) (by simp) ?_
          refine (AllReadyH.cons rfl (fun K hK => ?_) AllReadyH.nil)
          refine step_store_row (by rfl) 55 (.tmp 20) (.tmp 169) (by rfl) g114 #[.int .i64 pp.qt, .int .u64 (hiW pp.co), .int .u64 (loW pp.co), .int .u64 (hiW pp.ga), .int .u64 (loW pp.ga)] (by rfl) (by rfl) 55 _ r124.out infoPo5 (by rfl) (by simp [Value.oneCell']) ?_
          obtain ⟨Y125, hY125⟩ : ∃ Y, Y123.setRow g114 #[.int .i64 pp.qt, .int .u64 (hiW pp.co), .int .u64 (loW pp.co), .int .u64 (hiW pp.ga), .int .u64 (loW pp.ga)] = Y := ⟨_, rfl⟩
          have KY125 := hid (show Kp (fun j => j = g114) Y123 Y125 from by rw [← hY125]; exact setRow_kp _ _ _)
          have AY125 := hid (show Y125.heap[g114]? = some (.cells #[.int .i64 pp.qt, .int .u64 (hiW pp.co), .int .u64 (loW pp.co), .int .u64 (hiW pp.ga), .int .u64 (loW pp.ga)] 55 (0, 0)) from by rw [← hY125]; exact setRow_heap Y123 g114 _ _ 55 (0, 0) r124.out)
          have DY125 := hid (show Below wr.heap.size wr Y125 from by rw [← hY125]; exact setRow_below DY123.out yg114)
          have r126 := hid (KY125.out.row AY123.out (fun e => n116.symm e))
          rw [hY125]
          refine hK.out _ _ ?_ (fun hHeld => ?_)
          · (try dsimp only); exact ⟨F0.out _ DY125.out, F1.out _ DY125.out⟩
          clear hK K hY125
          try simp only [lgA, lgB, lgC, Act.put, lsA, lsB, lsC]
          refine wpAnyH_done (by kernel_rfl) ?_ _
          obtain ⟨y0, y1, y2, y3, y4⟩ := po_cells r126.out
          obtain ⟨z0, z1, z2, z3, z4⟩ := po_cells AY125.out
          go_wp2_with (first | (go_at_call 15; with_reducible refine (CM1.out Y125).mono ?_; rintro e u2 ⟨rfl, hb⟩; have HB2 := hid (btr DY125.out hb); obtain ⟨s0, s1, s2, s3, s4⟩ := po_cells (row_on r126.out hb); obtain ⟨t0, t1, t2, t3, t4⟩ := po_cells (row_on AY125.out hb); clear hb) | (go_at_call 15; with_reducible refine (CM2.out u2).mono ?_; rintro e u3 ⟨rfl, hb⟩; have HB3 := hid (btr HB2.out hb); clear hb))
          go_roundw
          case rel => exact ⟨k + 1, hlk, by go_num, hid (btr HBW.out HB3.out)⟩
          case measure => simp [intOf]; omega
      · go_simp
        obtain ⟨X127, hX127⟩ : ∃ X, V19.alloc (.cells #[.int .i64 0, .int .u64 0, .int .u64 0, .int .u64 0, .int .u64 0] 55) = X := ⟨_, rfl⟩
        have bX127 : Below V19.heap.size V19 X127 := by rw [← hX127]; exact ball _ _
        have DX127 := hid (btr BV19.out bX127)
        have zX127 : X127.heap[V19.heap.size]? = some (.cells #[.int .i64 0, .int .u64 0, .int .u64 0, .int .u64 0, .int .u64 0] 55 (0, 0)) := by rw [← hX127]; exact World.alloc_heap_new _ _
        have yg128 := BV19.out.size
        obtain ⟨g128, hg128⟩ : ∃ g, V19.heap.size = g := ⟨_, rfl⟩
        rw [hg128] at zX127 yg128
        have ZX127 := hid zX127
        rw [hX127, hg128]
        clear hX127 hg128 zX127 bX127
        refine hK.out _ _ ?_ (fun hHeld => ?_)
        · (try dsimp only); exact ⟨F0.out _ DX127.out, F1.out _ DX127.out⟩
        clear hK K
        try simp only [lgA, lgB, lgC, Act.put, lsA, lsB, lsC]
        refine wpAnyH_ready (rs := [9, 20]) (by kernel_rfl) (by simp) ?_
        refine (AllReadyH.cons rfl (fun K hK => ?_) (AllReadyH.cons rfl (fun K hK => ?_) AllReadyH.nil))
        · go_simp
          go_at_call 18
          with_reducible refine (CPa.out X127 DX127.out).mono ?_
          rintro e X129 ⟨rfl, DbX129⟩
          have r130 := hid (row_on ZX127.out DbX129.out)
          have DX129 := hid (btr DX127.out DbX129.out)
          have UX129 := hid (DX127.out.size)
          (try go_wp2_with fail)
          refine hK.out _ _ ?_ (fun hHeld => ?_)
          · (try dsimp only); exact ⟨F0.out _ DX129.out, F1.out _ DX129.out⟩
          clear hK K
          try simp only [lgA, lgB, lgC, Act.put, lsA, lsB, lsC]
          refine wpAnyH_ready (rs := [19, 20]) (by kernel_rfl) (by simp) ?_
          refine (AllReadyH.cons rfl (fun K hK => ?_) (AllReadyH.cons rfl (fun K hK => ?_) AllReadyH.nil))
          · go_simp
            go_at_call 18
            with_reducible refine (CPb.out X129 DX129.out).mono ?_
            rintro e X131 ⟨rfl, DbX131⟩
            have r132 := hid (row_on r130.out DbX131.out)
            have DX131 := hid (btr DX129.out DbX131.out)
            have UX131 := hid (DX129.out.size)
            (try go_wp2_with fail)
            refine hK.out _ _ ?_ (fun hHeld => ?_)
            · (try dsimp only); exact ⟨F0.out _ DX131.out, F1.out _ DX131.out⟩
            clear hK K
            try simp only [lgA, lgB, lgC, Act.put, lsA, lsB, lsC]
            refine wpAnyH_ready (rs := [20]) (by kernel_rfl) (by simp) ?_
            refine (AllReadyH.cons rfl (fun K hK => ?_) AllReadyH.nil)
            go_simp
            obtain ⟨X133, hX133⟩ : ∃ X, X131.alloc (.cells #[.int .i64 0, .int .u64 0, .int .u64 0, .int .u64 0, .int .u64 0] 55) = X := ⟨_, rfl⟩
            have bX133 : Below X131.heap.size X131 X133 := by rw [← hX133]; exact ball _ _
            have r135 := hid (row_on r132.out bX133)
            have DX133 := hid (btr DX131.out bX133)
            have zX133 : X133.heap[X131.heap.size]? = some (.cells #[.int .i64 0, .int .u64 0, .int .u64 0, .int .u64 0, .int .u64 0] 55 (0, 0)) := by rw [← hX133]; exact World.alloc_heap_new _ _
            have yg134 := DX131.out.size
            obtain ⟨g134, hg134⟩ : ∃ g, X131.heap.size = g := ⟨_, rfl⟩
            have n136 : g134 ≠ g128 := by have := row_lt r132.out; omega
            rw [hg134] at zX133 yg134
            have ZX133 := hid zX133
            rw [hX133, hg134]
            clear hX133 hg134 zX133 bX133
            refine hK.out _ _ ?_ (fun hHeld => ?_)
            · (try dsimp only); exact ⟨F0.out _ DX133.out, F1.out _ DX133.out⟩
            clear hK K
            try simp only [lgA, lgB, lgC, Act.put, lsA, lsB, lsC]
            refine wpAnyH_ready (rs := [22]) (by kernel_rfl) (by simp) ?_
            refine (AllReadyH.cons rfl (fun K hK => ?_) AllReadyH.nil)
            refine step_store_row (by rfl) 55 (.tmp 19) (.tmp 159) (by rfl) g134 #[.int .i64 pp.qt, .int .u64 (hiW pp.co), .int .u64 (loW pp.co), .int .u64 (hiW pp.ga), .int .u64 (loW pp.ga)] (by rfl) (by rfl) 55 _ ZX133.out infoPo5 (by rfl) (by simp [Value.oneCell']) ?_
            obtain ⟨Y137, hY137⟩ : ∃ Y, X133.setRow g134 #[.int .i64 pp.qt, .int .u64 (hiW pp.co), .int .u64 (loW pp.co), .int .u64 (hiW pp.ga), .int .u64 (loW pp.ga)] = Y := ⟨_, rfl⟩
            have KY137 := hid (show Kp (fun j => j = g134) X133 Y137 from by rw [← hY137]; exact setRow_kp _ _ _)
            have AY137 := hid (show Y137.heap[g134]? = some (.cells #[.int .i64 pp.qt, .int .u64 (hiW pp.co), .int .u64 (loW pp.co), .int .u64 (hiW pp.ga), .int .u64 (loW pp.ga)] 55 (0, 0)) from by rw [← hY137]; exact setRow_heap X133 g134 _ _ 55 (0, 0) ZX133.out)
            have DY137 := hid (show Below wr.heap.size wr Y137 from by rw [← hY137]; exact setRow_below DX133.out yg134)
            have r138 := hid (KY137.out.row r135.out (fun e => n136.symm e))
            rw [hY137]
            refine hK.out _ _ ?_ (fun hHeld => ?_)
            · (try dsimp only); exact ⟨F0.out _ DY137.out, F1.out _ DY137.out⟩
            clear hK K hY137
            try simp only [lgA, lgB, lgC, Act.put, lsA, lsB, lsC]
            refine wpAnyH_ready (rs := [23]) (by kernel_rfl) (by simp) ?_
            refine (AllReadyH.cons rfl (fun K hK => ?_) AllReadyH.nil)
            refine step_store_row (by rfl) 55 (.tmp 20) (.tmp 169) (by rfl) g128 #[.int .i64 pp.qt, .int .u64 (hiW pp.co), .int .u64 (loW pp.co), .int .u64 (hiW pp.ga), .int .u64 (loW pp.ga)] (by rfl) (by rfl) 55 _ r138.out infoPo5 (by rfl) (by simp [Value.oneCell']) ?_
            obtain ⟨Y139, hY139⟩ : ∃ Y, Y137.setRow g128 #[.int .i64 pp.qt, .int .u64 (hiW pp.co), .int .u64 (loW pp.co), .int .u64 (hiW pp.ga), .int .u64 (loW pp.ga)] = Y := ⟨_, rfl⟩
            have KY139 := hid (show Kp (fun j => j = g128) Y137 Y139 from by rw [← hY139]; exact setRow_kp _ _ _)
            have AY139 := hid (show Y139.heap[g128]? = some (.cells #[.int .i64 pp.qt, .int .u64 (hiW pp.co), .int .u64 (loW pp.co), .int .u64 (hiW pp.ga), .int .u64 (loW pp.ga)] 55 (0, 0)) from by rw [← hY139]; exact setRow_heap Y137 g128 _ _ 55 (0, 0) r138.out)
            have DY139 := hid (show Below wr.heap.size wr Y139 from by rw [← hY139]; exact setRow_below DY137.out yg128)
            have r140 := hid (KY139.out.row AY137.out (fun e => n136 e))
            rw [hY139]
            refine hK.out _ _ ?_ (fun hHeld => ?_)
            · (try dsimp only); exact ⟨F0.out _ DY139.out, F1.out _ DY139.out⟩
            clear hK K hY139
            try simp only [lgA, lgB, lgC, Act.put, lsA, lsB, lsC]
            refine wpAnyH_done (by kernel_rfl) ?_ _
            obtain ⟨y0, y1, y2, y3, y4⟩ := po_cells r140.out
            obtain ⟨z0, z1, z2, z3, z4⟩ := po_cells AY139.out
            go_wp2_with (first | (go_at_call 15; with_reducible refine (CM1.out Y139).mono ?_; rintro e u2 ⟨rfl, hb⟩; have HB2 := hid (btr DY139.out hb); obtain ⟨s0, s1, s2, s3, s4⟩ := po_cells (row_on r140.out hb); obtain ⟨t0, t1, t2, t3, t4⟩ := po_cells (row_on AY139.out hb); clear hb) | (go_at_call 15; with_reducible refine (CM2.out u2).mono ?_; rintro e u3 ⟨rfl, hb⟩; have HB3 := hid (btr HB2.out hb); clear hb))
            go_roundw
            case rel => exact ⟨k + 1, hlk, by go_num, hid (btr HBW.out HB3.out)⟩
            case measure => simp [intOf]; omega
          · go_simp
            obtain ⟨X141, hX141⟩ : ∃ X, X129.alloc (.cells #[.int .i64 0, .int .u64 0, .int .u64 0, .int .u64 0, .int .u64 0] 55) = X := ⟨_, rfl⟩
            have bX141 : Below X129.heap.size X129 X141 := by rw [← hX141]; exact ball _ _
            have r143 := hid (row_on r130.out bX141)
            have DX141 := hid (btr DX129.out bX141)
            have zX141 : X141.heap[X129.heap.size]? = some (.cells #[.int .i64 0, .int .u64 0, .int .u64 0, .int .u64 0, .int .u64 0] 55 (0, 0)) := by rw [← hX141]; exact World.alloc_heap_new _ _
            have yg142 := DX129.out.size
            obtain ⟨g142, hg142⟩ : ∃ g, X129.heap.size = g := ⟨_, rfl⟩
            have n144 : g142 ≠ g128 := by have := row_lt r130.out; omega
            rw [hg142] at zX141 yg142
            have ZX141 := hid zX141
            rw [hX141, hg142]
            clear hX141 hg142 zX141 bX141
            refine hK.out _ _ ?_ (fun hHeld => ?_)
            · (try dsimp only); exact ⟨F0.out _ DX141.out, F1.out _ DX141.out⟩
            clear hK K
            try simp only [lgA, lgB, lgC, Act.put, lsA, lsB, lsC]
            refine wpAnyH_ready (rs := [19]) (by kernel_rfl) (by simp) ?_
            refine (AllReadyH.cons rfl (fun K hK => ?_) AllReadyH.nil)
            go_simp
            go_at_call 18
            with_reducible refine (CPb.out X141 DX141.out).mono ?_
            rintro e X145 ⟨rfl, DbX145⟩
            have r146 := hid (row_on r143.out DbX145.out)
            have r147 := hid (row_on ZX141.out DbX145.out)
            have DX145 := hid (btr DX141.out DbX145.out)
            have UX145 := hid (DX141.out.size)
            (try go_wp2_with fail)
            refine hK.out _ _ ?_ (fun hHeld => ?_)
            · (try dsimp only); exact ⟨F0.out _ DX145.out, F1.out _ DX145.out⟩
            clear hK K
            try simp only [lgA, lgB, lgC, Act.put, lsA, lsB, lsC]
            refine wpAnyH_ready (rs := [22]) (by kernel_rfl) (by simp) ?_
            refine (AllReadyH.cons rfl (fun K hK => ?_) AllReadyH.nil)
            refine step_store_row (by rfl) 55 (.tmp 19) (.tmp 159) (by rfl) g142 #[.int .i64 pp.qt, .int .u64 (hiW pp.co), .int .u64 (loW pp.co), .int .u64 (hiW pp.ga), .int .u64 (loW pp.ga)] (by rfl) (by rfl) 55 _ r147.out infoPo5 (by rfl) (by simp [Value.oneCell']) ?_
            obtain ⟨Y148, hY148⟩ : ∃ Y, X145.setRow g142 #[.int .i64 pp.qt, .int .u64 (hiW pp.co), .int .u64 (loW pp.co), .int .u64 (hiW pp.ga), .int .u64 (loW pp.ga)] = Y := ⟨_, rfl⟩
            have KY148 := hid (show Kp (fun j => j = g142) X145 Y148 from by rw [← hY148]; exact setRow_kp _ _ _)
            have AY148 := hid (show Y148.heap[g142]? = some (.cells #[.int .i64 pp.qt, .int .u64 (hiW pp.co), .int .u64 (loW pp.co), .int .u64 (hiW pp.ga), .int .u64 (loW pp.ga)] 55 (0, 0)) from by rw [← hY148]; exact setRow_heap X145 g142 _ _ 55 (0, 0) r147.out)
            have DY148 := hid (show Below wr.heap.size wr Y148 from by rw [← hY148]; exact setRow_below DX145.out yg142)
            have r149 := hid (KY148.out.row r146.out (fun e => n144.symm e))
            rw [hY148]
            refine hK.out _ _ ?_ (fun hHeld => ?_)
            · (try dsimp only); exact ⟨F0.out _ DY148.out, F1.out _ DY148.out⟩
            clear hK K hY148
            try simp only [lgA, lgB, lgC, Act.put, lsA, lsB, lsC]
            refine wpAnyH_ready (rs := [23]) (by kernel_rfl) (by simp) ?_
            refine (AllReadyH.cons rfl (fun K hK => ?_) AllReadyH.nil)
            refine step_store_row (by rfl) 55 (.tmp 20) (.tmp 169) (by rfl) g128 #[.int .i64 pp.qt, .int .u64 (hiW pp.co), .int .u64 (loW pp.co), .int .u64 (hiW pp.ga), .int .u64 (loW pp.ga)] (by rfl) (by rfl) 55 _ r149.out infoPo5 (by rfl) (by simp [Value.oneCell']) ?_
            obtain ⟨Y150, hY150⟩ : ∃ Y, Y148.setRow g128 #[.int .i64 pp.qt, .int .u64 (hiW pp.co), .int .u64 (loW pp.co), .int .u64 (hiW pp.ga), .int .u64 (loW pp.ga)] = Y := ⟨_, rfl⟩
            have KY150 := hid (show Kp (fun j => j = g128) Y148 Y150 from by rw [← hY150]; exact setRow_kp _ _ _)
            have AY150 := hid (show Y150.heap[g128]? = some (.cells #[.int .i64 pp.qt, .int .u64 (hiW pp.co), .int .u64 (loW pp.co), .int .u64 (hiW pp.ga), .int .u64 (loW pp.ga)] 55 (0, 0)) from by rw [← hY150]; exact setRow_heap Y148 g128 _ _ 55 (0, 0) r149.out)
            have DY150 := hid (show Below wr.heap.size wr Y150 from by rw [← hY150]; exact setRow_below DY148.out yg128)
            have r151 := hid (KY150.out.row AY148.out (fun e => n144 e))
            rw [hY150]
            refine hK.out _ _ ?_ (fun hHeld => ?_)
            · (try dsimp only); exact ⟨F0.out _ DY150.out, F1.out _ DY150.out⟩
            clear hK K hY150
            try simp only [lgA, lgB, lgC, Act.put, lsA, lsB, lsC]
            refine wpAnyH_done (by kernel_rfl) ?_ _
            obtain ⟨y0, y1, y2, y3, y4⟩ := po_cells r151.out
            obtain ⟨z0, z1, z2, z3, z4⟩ := po_cells AY150.out
            go_wp2_with (first | (go_at_call 15; with_reducible refine (CM1.out Y150).mono ?_; rintro e u2 ⟨rfl, hb⟩; have HB2 := hid (btr DY150.out hb); obtain ⟨s0, s1, s2, s3, s4⟩ := po_cells (row_on r151.out hb); obtain ⟨t0, t1, t2, t3, t4⟩ := po_cells (row_on AY150.out hb); clear hb) | (go_at_call 15; with_reducible refine (CM2.out u2).mono ?_; rintro e u3 ⟨rfl, hb⟩; have HB3 := hid (btr HB2.out hb); clear hb))
            go_roundw
            case rel => exact ⟨k + 1, hlk, by go_num, hid (btr HBW.out HB3.out)⟩
            case measure => simp [intOf]; omega
        · go_simp
          obtain ⟨X152, hX152⟩ : ∃ X, X127.alloc (.cells #[.int .i64 0, .int .u64 0, .int .u64 0, .int .u64 0, .int .u64 0] 55) = X := ⟨_, rfl⟩
          have bX152 : Below X127.heap.size X127 X152 := by rw [← hX152]; exact ball _ _
          have r154 := hid (row_on ZX127.out bX152)
          have DX152 := hid (btr DX127.out bX152)
          have zX152 : X152.heap[X127.heap.size]? = some (.cells #[.int .i64 0, .int .u64 0, .int .u64 0, .int .u64 0, .int .u64 0] 55 (0, 0)) := by rw [← hX152]; exact World.alloc_heap_new _ _
          have yg153 := DX127.out.size
          obtain ⟨g153, hg153⟩ : ∃ g, X127.heap.size = g := ⟨_, rfl⟩
          have n155 : g153 ≠ g128 := by have := row_lt ZX127.out; omega
          rw [hg153] at zX152 yg153
          have ZX152 := hid zX152
          rw [hX152, hg153]
          clear hX152 hg153 zX152 bX152
          refine hK.out _ _ ?_ (fun hHeld => ?_)
          · (try dsimp only); exact ⟨F0.out _ DX152.out, F1.out _ DX152.out⟩
          clear hK K
          try simp only [lgA, lgB, lgC, Act.put, lsA, lsB, lsC]
          refine wpAnyH_ready (rs := [9]) (by kernel_rfl) (by simp) ?_
          refine (AllReadyH.cons rfl (fun K hK => ?_) AllReadyH.nil)
          go_simp
          go_at_call 18
          with_reducible refine (CPa.out X152 DX152.out).mono ?_
          rintro e X156 ⟨rfl, DbX156⟩
          have r157 := hid (row_on r154.out DbX156.out)
          have r158 := hid (row_on ZX152.out DbX156.out)
          have DX156 := hid (btr DX152.out DbX156.out)
          have UX156 := hid (DX152.out.size)
          (try go_wp2_with fail)
          refine hK.out _ _ ?_ (fun hHeld => ?_)
          · (try dsimp only); exact ⟨F0.out _ DX156.out, F1.out _ DX156.out⟩
          clear hK K
          try simp only [lgA, lgB, lgC, Act.put, lsA, lsB, lsC]
          refine wpAnyH_ready (rs := [19]) (by kernel_rfl) (by simp) ?_
          refine (AllReadyH.cons rfl (fun K hK => ?_) AllReadyH.nil)
          go_simp
          go_at_call 18
          with_reducible refine (CPb.out X156 DX156.out).mono ?_
          rintro e X159 ⟨rfl, DbX159⟩
          have r160 := hid (row_on r157.out DbX159.out)
          have r161 := hid (row_on r158.out DbX159.out)
          have DX159 := hid (btr DX156.out DbX159.out)
          have UX159 := hid (DX156.out.size)
          (try go_wp2_with fail)
          refine hK.out _ _ ?_ (fun hHeld => ?_)
          · (try dsimp only); exact ⟨F0.out _ DX159.out, F1.out _ DX159.out⟩
          clear hK K
          try simp only [lgA, lgB, lgC, Act.put, lsA, lsB, lsC]
          refine wpAnyH_ready (rs := [22]) (by kernel_rfl) (by simp) ?_
          refine (AllReadyH.cons rfl (fun K hK => ?_) AllReadyH.nil)
          refine step_store_row (by rfl) 55 (.tmp 19) (.tmp 159) (by rfl) g153 #[.int .i64 pp.qt, .int .u64 (hiW pp.co), .int .u64 (loW pp.co), .int .u64 (hiW pp.ga), .int .u64 (loW pp.ga)] (by rfl) (by rfl) 55 _ r161.out infoPo5 (by rfl) (by simp [Value.oneCell']) ?_
          obtain ⟨Y162, hY162⟩ : ∃ Y, X159.setRow g153 #[.int .i64 pp.qt, .int .u64 (hiW pp.co), .int .u64 (loW pp.co), .int .u64 (hiW pp.ga), .int .u64 (loW pp.ga)] = Y := ⟨_, rfl⟩
          have KY162 := hid (show Kp (fun j => j = g153) X159 Y162 from by rw [← hY162]; exact setRow_kp _ _ _)
          have AY162 := hid (show Y162.heap[g153]? = some (.cells #[.int .i64 pp.qt, .int .u64 (hiW pp.co), .int .u64 (loW pp.co), .int .u64 (hiW pp.ga), .int .u64 (loW pp.ga)] 55 (0, 0)) from by rw [← hY162]; exact setRow_heap X159 g153 _ _ 55 (0, 0) r161.out)
          have DY162 := hid (show Below wr.heap.size wr Y162 from by rw [← hY162]; exact setRow_below DX159.out yg153)
          have r163 := hid (KY162.out.row r160.out (fun e => n155.symm e))
          rw [hY162]
          refine hK.out _ _ ?_ (fun hHeld => ?_)
          · (try dsimp only); exact ⟨F0.out _ DY162.out, F1.out _ DY162.out⟩
          clear hK K hY162
          try simp only [lgA, lgB, lgC, Act.put, lsA, lsB, lsC]
          refine wpAnyH_ready (rs := [23]) (by kernel_rfl) (by simp) ?_
          refine (AllReadyH.cons rfl (fun K hK => ?_) AllReadyH.nil)
          refine step_store_row (by rfl) 55 (.tmp 20) (.tmp 169) (by rfl) g128 #[.int .i64 pp.qt, .int .u64 (hiW pp.co), .int .u64 (loW pp.co), .int .u64 (hiW pp.ga), .int .u64 (loW pp.ga)] (by rfl) (by rfl) 55 _ r163.out infoPo5 (by rfl) (by simp [Value.oneCell']) ?_
          obtain ⟨Y164, hY164⟩ : ∃ Y, Y162.setRow g128 #[.int .i64 pp.qt, .int .u64 (hiW pp.co), .int .u64 (loW pp.co), .int .u64 (hiW pp.ga), .int .u64 (loW pp.ga)] = Y := ⟨_, rfl⟩
          have KY164 := hid (show Kp (fun j => j = g128) Y162 Y164 from by rw [← hY164]; exact setRow_kp _ _ _)
          have AY164 := hid (show Y164.heap[g128]? = some (.cells #[.int .i64 pp.qt, .int .u64 (hiW pp.co), .int .u64 (loW pp.co), .int .u64 (hiW pp.ga), .int .u64 (loW pp.ga)] 55 (0, 0)) from by rw [← hY164]; exact setRow_heap Y162 g128 _ _ 55 (0, 0) r163.out)
          have DY164 := hid (show Below wr.heap.size wr Y164 from by rw [← hY164]; exact setRow_below DY162.out yg128)
          have r165 := hid (KY164.out.row AY162.out (fun e => n155 e))
          rw [hY164]
          refine hK.out _ _ ?_ (fun hHeld => ?_)
          · (try dsimp only); exact ⟨F0.out _ DY164.out, F1.out _ DY164.out⟩
          clear hK K hY164
          try simp only [lgA, lgB, lgC, Act.put, lsA, lsB, lsC]
          refine wpAnyH_done (by kernel_rfl) ?_ _
          obtain ⟨y0, y1, y2, y3, y4⟩ := po_cells r165.out
          obtain ⟨z0, z1, z2, z3, z4⟩ := po_cells AY164.out
          go_wp2_with (first | (go_at_call 15; with_reducible refine (CM1.out Y164).mono ?_; rintro e u2 ⟨rfl, hb⟩; have HB2 := hid (btr DY164.out hb); obtain ⟨s0, s1, s2, s3, s4⟩ := po_cells (row_on r165.out hb); obtain ⟨t0, t1, t2, t3, t4⟩ := po_cells (row_on AY164.out hb); clear hb) | (go_at_call 15; with_reducible refine (CM2.out u2).mono ?_; rintro e u3 ⟨rfl, hb⟩; have HB3 := hid (btr HB2.out hb); clear hb))
          go_roundw
          case rel => exact ⟨k + 1, hlk, by go_num, hid (btr HBW.out HB3.out)⟩
          case measure => simp [intOf]; omega
end Go.Proofs.Ytphhllppgelceaa.Ac
