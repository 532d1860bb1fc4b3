/-
  WireAlls, whatever comes in.
-/
import Derived.Test.YtndpihbillfhbaaDoorWbD
namespace Go.Proofs.YtndpihbillfhbaaDoor
open Go.RowKit Go.Deep Crc
set_option linter.unusedVariables false
set_option linter.unusedSimpArgs false
set_option maxRecDepth 1000000
set_option maxHeartbeats 8000000
attribute [local go_sem] Oper.semAt_some
theorem own_base {base base' : Nat} {w : World} {e : TypeId} {size n : Nat} {v : Value} {xs : List Value} (h : w.ownsRow base e size v n xs) (hb : base' ≤ base) : w.ownsRow base' e size v n xs := by
  obtain ⟨h1, h2 | ⟨g, c, cur, h2, r1, r⟩⟩ := h
  · exact ⟨h1, .inl h2⟩
  · exact ⟨h1, .inr ⟨g, c, cur, h2, Nat.le_trans hb r1, r⟩⟩
theorem wpList_appB (w : World) {ops : Array Oper} {rest : List Oper} {o : Oper} {a : Act} {Q : Exit → Act → World → Prop} (hgd : o.guard = none) (s x : Operand)
    (ho : o.op = .call { callee := .builtin .append, args := #[s, x], argTypes := #[22, 22] }) (base : Nat) (v : Value) (zs : List Nat) (hs : a.eval s = v) (hown : w.ownsRow base 5 1 v zs.length (bv zs))
    (u : Value) (xs : List Nat) (hx : a.eval x = u) (hu : Sx w u xs) (hn : zs.length + xs.length ≤ 140737488355328) (hbase : base ≤ w.heap.size)
    (h : ∀ p' c' w', w'.ownsRow base 5 1 (.slice p' (zs ++ xs).length c') (zs ++ xs).length (bv (zs ++ xs)) → Below base w w' → wpList Tryd.prog ops Q rest (a.put o.dst (.slice p' (zs ++ xs).length c')) w') : wpList Tryd.prog ops Q (o :: rest) a w := by
  refine wpList_plain hgd fun K hK => wp_appB s x ho base v zs hs hown u xs hx hu hn hbase _ rfl ?_
  intro v' w' h1 h2
  obtain ⟨p', c', hv⟩ := own_form h1
  subst hv
  exact hK _ _ (h p' c' w' h1 h2)
theorem k1_set (N : Nat) (w : World) (i : Nat) (v : Value) : K1 N w (w.setCell ⟨N, i, none⟩ v) :=
  ⟨rfl, rfl, rfl, by simp [World.setCell], fun b _ hN => heap_setCell_other _ _ _ _ (by show b ≠ N; exact hN)⟩
theorem left_k1 (g cap : Nat) (v : Value) (xs : List Nat) (w0 w : World) (hn : xs.length ≤ 140737488351232) (hM : Mine w0 w g cap (xs.length + 5) (xs ++ [1, 2, 3, 4, 5])) (hS : Sx w v xs) :
    Calls Tryd.prog 12 #[.slice (some ⟨g, 0, none⟩) (xs.length + 5) cap, v] w fun e w' => e = .returned (.bool true) ∧ K1 g w w' := by
  have cv1 : (convert 22 9 (.slice (some ⟨g, 0, none⟩) (xs.length + 5) cap)).run Tryd.prog w = .ok (.string (txt (xs ++ [1, 2, 3, 4, 5]))) w :=
    conv_bytes w g 0 cap (xs ++ [1, 2, 3, 4, 5]) (xs.length + 5) (by simp) (fun i hi => by
      have := hM.cells (g := g) rfl i (.int .u8 (((xs ++ [1, 2, 3, 4, 5])[i] : Nat) : Int)) (bv_get _ i hi)
      rw [Addr.add_mid] at this
      exact this)
  have cv2 := conv_sx w v xs hS
  have HM := hid hM
  clear hM hS
  have hsz := txt_size xs
  have hsz2 : ¬ (9223372036854775807 < (txt xs).size + 5) := by omega
  have hq := txt_append xs
  rcases HM.out.2 with ⟨h, _⟩ | ⟨g', cap', cur, h, hbg, hg, hnc, hcm, hcs, _⟩
  · simp at h
  simp only [Value.slice.injEq, Option.some.injEq, Addr.mk.injEq, and_true, true_and] at h
  obtain ⟨rfl, rfl⟩ := h
  have HG := hid hg
  have hcap : cur.size = cap := by omega
  clear hg HM hcs
  go_enter Tryd.func12, Tryd.ntmps12
  go_wp2_with fail
  go_loopw [6] (fun iv wr => ∃ (i : Nat) (cu : Array Value), i ≤ xs.length + 5 ∧ iv = .int .i64 i ∧ cu.size = cap ∧ Hid (wr.heap[g]? = some (.cells cu 5 (0, 0))) ∧ Hid (K1 g w wr)) (fun iv _ => xs.length + 5 - (intOf iv).toNat)
  case atStart => exact ⟨0, cur, by omega, rfl, hcap, HG.out, K1.refl _ _⟩
  case round =>
    obtain ⟨i, cu, hi, rfl, hc, HR, HB⟩ := hrel
    by_cases hlt : i < xs.length + 5
    · obtain ⟨y0, hy0⟩ : ∃ y0, wr.cell? ⟨g, i, none⟩ = some y0 := by
        rw [cell_of_row wr g i _ 5 _ HR.out]
        exact ⟨_, Array.getElem?_eq_getElem (by omega)⟩
      have hfz : wr.frozen? ⟨g, i, none⟩ = false := frozen_of_row wr g i _ 5 HR.out
      have i0 : (0 : Int) ≤ (i : Int) := by omega
      have i1 : (i : Int) < (xs.length : Int) + 5 := by omega
      have HN := hid (show (wr.setCell ⟨g, i, none⟩ (.int .u8 238)).heap[g]? = some (.cells (cu.setIfInBounds i (.int .u8 238)) 5 (0, 0)) from heap_setCell_same wr g i _ 5 _ HR.out)
      have HB2 := hid (show K1 g w (wr.setCell ⟨g, i, none⟩ (.int .u8 238)) from HB.out.trans (k1_set g wr i _))
      have hc2 : (cu.setIfInBounds i (.int .u8 238)).size = cap := by simpa using hc
      clear HR HB
      go_wp2
      go_roundw
      case rel => exact ⟨i + 1, _, by omega, by go_num, hc2, HN.out, HB2.out⟩
      case measure => simp [intOf]; omega
    · have hi5 : i = xs.length + 5 := by omega
      subst hi5
      go_wp2
      go_ret
      exact ⟨rfl, HB.out⟩
theorem K1.below' {N : Nat} {w W W' : World} (k : K1 N W W') (b : Below w.heap.size w W) (h : w.heap.size ≤ N) : Below w.heap.size w W' :=
  ⟨k.os.trans b.os, k.tape.trans b.tape, k.output.trans b.output, Nat.le_trans b.size k.size, fun g hg => (k.obj g (Nat.lt_of_lt_of_le hg b.size) (by omega)).trans (b.block g hg)⟩
theorem dgi {W : World} {D gi : Nat} (h : W.heap[D]? = some (.deferred (some []))) (g : ∃ cur, W.heap[gi]? = some (.cells cur 5 (0, 0))) : D ≠ gi := by
  rintro rfl
  obtain ⟨c, e⟩ := g
  rw [h] at e; cases e
theorem alls_end {w W : World} {R D1 D2 D3 : Nat} (b : Below w.heap.size w W) (r : W.heap[R]? = some (.cells #[.bool false] 4 (0, 0))) (hR : w.heap.size ≤ R)
    (d1 : W.heap[D1]? = some (.deferred (some []))) (d2 : W.heap[D2]? = some (.deferred (some []))) (d3 : W.heap[D3]? = some (.deferred (some []))) (hw : w.heap.size ≤ D1 ∧ w.heap.size ≤ D2 ∧ w.heap.size ≤ D3) (ne : D1 ≠ D2 ∧ D1 ≠ D3 ∧ D2 ≠ D3) :
    (W.setCell ⟨R, 0, none⟩ (.bool true)).heap[D3]? = some (.deferred (some [])) ∧ ((W.setCell ⟨R, 0, none⟩ (.bool true)).putObj D3 (.deferred none)).heap[D2]? = some (.deferred (some [])) ∧ (((W.setCell ⟨R, 0, none⟩ (.bool true)).putObj D3 (.deferred none)).putObj D2 (.deferred none)).heap[D1]? = some (.deferred (some [])) ∧
    ((((W.setCell ⟨R, 0, none⟩ (.bool true)).putObj D3 (.deferred none)).putObj D2 (.deferred none)).putObj D1 (.deferred none)).cell? ⟨R, 0, none⟩ = some (.bool true) ∧ Below w.heap.size w ((((W.setCell ⟨R, 0, none⟩ (.bool true)).putObj D3 (.deferred none)).putObj D2 (.deferred none)).putObj D1 (.deferred none)) := by
  have n1 : D1 ≠ R := fun e => by subst e; rw [d1] at r; cases r
  have n2 : D2 ≠ R := fun e => by subst e; rw [d2] at r; cases r
  have n3 : D3 ≠ R := fun e => by subst e; rw [d3] at r; cases r
  have e : ∀ j, j ≠ R → (W.setCell ⟨R, 0, none⟩ (.bool true)).heap[j]? = W.heap[j]? := fun j hj => heap_setCell_other _ _ _ _ (by show j ≠ R; exact hj)
  have rf : (W.setCell ⟨R, 0, none⟩ (.bool true)).heap[R]? = some (.cells #[.bool true] 4 (0, 0)) := by rw [Go.heap_setCell_same _ _ _ _ _ _ r]; rfl
  have f3 := (e D3 n3).trans d3
  have f2 : ((W.setCell ⟨R, 0, none⟩ (.bool true)).putObj D3 (.deferred none)).heap[D2]? = some (.deferred (some [])) := by
    rw [World.putObj_heap_other ne.2.2]; exact (e D2 n2).trans d2
  have f1 : (((W.setCell ⟨R, 0, none⟩ (.bool true)).putObj D3 (.deferred none)).putObj D2 (.deferred none)).heap[D1]? = some (.deferred (some [])) := by
    rw [World.putObj_heap_other ne.1, World.putObj_heap_other ne.2.1]; exact (e D1 n1).trans d1
  refine ⟨f3, f2, f1, ?_, ?_⟩
  · refine row_cell (c := #[.bool true]) (ty := 4) (fz := (0, 0)) ?_ 0
    rw [World.putObj_heap_other (Ne.symm n1), World.putObj_heap_other (Ne.symm n2), World.putObj_heap_other (Ne.symm n3)]; exact rf
  · have b1 : Below w.heap.size w (W.setCell ⟨R, 0, none⟩ (.bool true)) := b.setCell hR _
    have b2 := b1.trans (belowK_b (w := w) (Nat.le_refl _) _ D3 _ (.deferred none) hw.2.2 f3 rfl rfl)
    have b3 := b2.trans (belowK_b (w := w) (Nat.le_refl _) _ D2 _ (.deferred none) hw.2.1 f2 rfl rfl)
    exact b3.trans (belowK_b (w := w) (Nat.le_refl _) _ D1 _ (.deferred none) hw.1 f1 rfl rfl)
theorem alls_any (q0 : Option Addr) (cap0 : Nat) (xs : List Nat) (stop : Int) (t : Nat) (w : World) (h0 : Sq w q0 cap0 xs) (ox : Oct xs) (ht : t < 256) (l0 : xs.length ≤ 1048576) (hL : Laid w) :
    Calls Tryd.prog 6 #[.slice q0 xs.length cap0, .int .i64 stop, .int .u8 (t : Nat)] w fun e w' => e = .returned (.bool true) ∧ Below w.heap.size w w' := by
  obtain ⟨wB, hwB⟩ : ∃ wB, (w.alloc (.cells #[.int .i64 stop] 3)).alloc (.cells #[.bool false] 4) = wB := ⟨_, rfl⟩
  have bB : Below w.heap.size w wB := by rw [← hwB]; exact ((Below.refl _ w).alloc (Nat.le_refl _) _).alloc (by simp) _
  have rS : wB.heap[w.heap.size]? = some (.cells #[.int .i64 stop] 3 (0, 0)) := by rw [← hwB, Below.heap_alloc _ _ _ (by simp)]; exact World.alloc_heap_new _ _
  have rC : wB.heap[w.heap.size + 1]? = some (.cells #[.bool false] 4 (0, 0)) := by
    rw [← hwB]
    have := World.alloc_heap_new (w.alloc (.cells #[.int .i64 stop] 3)) (.cells #[.bool false] 4)
    simpa using this
  have HWB := hid hwB
  have HBB := hid bB
  have HRS := hid (And.intro rS rC)
  have HS0 := hid h0
  have HX := hid ox
  have HL := hid hL
  have HHD := hid (hand_any (.slice q0 xs.length cap0) xs wB (by omega) (h0.sx.to bB))
  have HAL := hid (fun p n c u => allF_any p n c u)
  have NF := hid nilf
  clear hwB bB rS rC h0 ox hL
  refine (callsIn_wide (n := 5)).1 ?_
  refine callsIn_of_wp_marks Tryd.func6 rfl trivial ?_ rfl
  refine wpIn_wide.2 ?_
  simp only [Tryd.ntmps6, List.size_toArray, List.length_cons, List.length_nil, Nat.reduceAdd, Nat.reduceSub, Array.replicate_succ, Array.replicate_zero, List.push_toArray, List.append_toArray, List.nil_append, List.cons_append]
  go_wp2_with (first | (go_at_call 9; rw [HWB.out]; with_reducible refine (HHD.out).mono ?_; rintro e wC ⟨gi, ci, rfl, hM, hb⟩; have HMI := hid hM; have HBC := hid hb; clear hM hb; refine Hid.out ?_))
  have hci : xs.length + 5 ≤ ci := by
    obtain ⟨_, ⟨e, _⟩ | ⟨g', c', cu, e, r1, r2, r3, _⟩⟩ := HMI.out
    · cases e
    · cases e; exact r3
  have s1 : (0 : Int) ≤ (xs.length : Int) := by omega
  have s2 : (xs.length : Int) ≤ (ci : Int) := by omega
  have ct : ((xs.length : Int)).toNat = xs.length := by omega
  have HBCw := hid (show Below w.heap.size w wC from HBB.out.trans (HBC.out.mono HBB.out.size))
  have HSX := hid (show ∀ u, Below wC.heap.size wC u → Sx u (.slice q0 xs.length cap0) xs from fun u hu => (HS0.out.on (HBCw.out.trans (hu.mono HBCw.out.size))).sx)
  have BE := hid (show Below wC.heap.size wC ((wC.alloc (.cells #[.slice (some ⟨gi, 0, none⟩) xs.length ci] 22)).alloc (.cells #[] 5)) from ((Below.refl _ wC).alloc (Nat.le_refl _) _).alloc (by simp) _)
  have XE := hid (show ((wC.alloc (.cells #[.slice (some ⟨gi, 0, none⟩) xs.length ci] 22)).alloc (.cells #[] 5)).heap[wC.heap.size + 1]? = some (.cells #[] 5 (0, 0)) from by
    have := World.alloc_heap_new (wC.alloc (.cells #[.slice (some ⟨gi, 0, none⟩) xs.length ci] 22)) (.cells #[] 5)
    simpa using this)
  have RCB := hid (show ((wC.alloc (.cells #[.slice (some ⟨gi, 0, none⟩) xs.length ci] 22)).alloc (.cells #[] 5)).heap[wC.heap.size]? = some (.cells #[.slice (some ⟨gi, 0, none⟩) xs.length ci] 22 (0, 0)) from by
    rw [Below.heap_alloc _ _ _ (by simp)]; exact World.alloc_heap_new _ _)
  have sE : wC.heap.size + 1 ≤ ((wC.alloc (.cells #[.slice (some ⟨gi, 0, none⟩) xs.length ci] 22)).alloc (.cells #[] 5)).heap.size := by simp
  refine hid ?_
  go_wp2_with (first | (go_at_call 17; with_reducible refine (HAL.out _ _ _ _).mono ?_; rintro e w3 ⟨rfl, h3⟩; subst w3))
  rw [NF.out]
  go_wp2_with (first | (at_builtin; refine wpList_appB _ (by rfl) (.tmp 25) (.tmp 26) (by rfl) (wC.heap.size + 1) _ [] (by rfl) (own_empty (Nat.le_refl _) XE.out) _ xs (by rfl) (HSX.out _ BE.out) (by simp; omega) sE ?_; intro pn cn wF oF bF; have HOF := hid oF; have HBF := hid bF; clear oF bF; refine Hid.out ?_))
  have HOF' := hid (show wF.ownsRow (wC.heap.size + 1) 5 1 (.slice pn xs.length cn) xs.length (bv xs) from by simpa using HOF.out)
  have HBF' := hid (show Below (wC.heap.size + 1) (wC.alloc (.cells #[.slice (some ⟨gi, 0, none⟩) xs.length ci] 22)) wF from ((Below.refl _ _).alloc (by simp) _).trans HBF.out)
  have HBF2 := hid (show Below wC.heap.size wC wF from ((Below.refl _ wC).alloc (Nat.le_refl _) _).trans (HBF'.out.mono (by omega)))
  have lB := HBB.out.size
  have lC := HBC.out.size
  have rS := HRS.out.1
  have rC := HRS.out.2
  have bS := (Array.getElem?_eq_some_iff.1 rS).1
  have bC := (Array.getElem?_eq_some_iff.1 rC).1
  have bg := HMI.out.lt gi rfl
  have HAL1 := hid (show Al w w.heap.size (w.heap.size + 1) wC.heap.size gi ci pn cn stop xs wF from
    ⟨(HBF2.out.block _ (by omega)).trans ((HBC.out.block _ bS).trans rS), (HBF2.out.block _ (by omega)).trans ((HBC.out.block _ bC).trans rC),
     (HBF'.out.block _ (by omega)).trans (World.alloc_heap_new _ _),
     own_same (own_base HMI.out (by omega)) (fun g hg => HBF2.out.block g (HMI.out.lt g hg).2),
     own_base HOF'.out (by omega), (fun g hg e => by have := HOF'.out.lt g hg; omega), HBCw.out.trans (HBF2.out.mono HBCw.out.size), HX.out⟩)
  clear HOF HBF HOF' HBF' HBF2 lB lC rS rC bS bC bg HMI HBC HRS HSX BE XE RCB sE HBCw HHD HAL
  refine hid ?_
  go_wp2_with fail
  have HA1 := hid (HAL1.out.on (W' := wF.alloc (.cells #[.int .i64 0] 3)) ((Below.refl _ wF).alloc (Nat.le_refl _) _))
  have HR1 := hid (World.alloc_heap_new wF (.cells #[.int .i64 0] 3))
  refine wp_loop_rounds 4 ?_
  rw [rounds_succ]
  refine rnd w.heap.size (w.heap.size + 1) wC.heap.size gi ci cn wF.heap.size pn stop 0 xs [] (hc := by rfl) _ _ _ _ _ _ _ _ _ _ _ _ _ _ _ _ _ _ _ _ _ _ _ _ _ _ _ _ _ _ _ _ _ _ _ _ _ _ _ _ _ _ _ _ _ _ _ _ _ _ _ _ _ _ _ _ _ _ _ _ _ _ _ _ _ _ _ _ _ _ _ _ _ _ _ _ _ _ _ _ _ _ _ _ _ _ _ _ _ _ _ _ _ _ _ _ _ _ _ _ _ _ _ _ HA1.out HR1.out l0 HL.out (.inl rfl) ?_
  intro v11a v12a v13a v14a v15a v28a v29a v30a v31a v32a v33a v34a v35a v36a v37a v38a v39a v40a v41a v42a v43a v44a v45a v46a v47a v48a v49a v50a v51a v52a v53a v54a v55a v56a v57a v58a v59a v60a v61a v62a v63a v64a v65a v66a v67a v68a v69a v70a v71a v72a v73a v74a v75a v76a v77a v78a v79a v80a v81a v82a v83a v84a v85a v86a v87a v88a v89a v90a v91a v92a v93a v94a v95a v96a v97a v98a v99a v100a v101a v102a v103a v104a v105a v106a RD1 D1 W1 HB1 HRD1 HD1 hD1
  show Code.rounds _ _ _ 3 _ _
  rw [rounds_succ]
  have HA2 := hid (HA1.out.on HB1)
  refine rnd w.heap.size (w.heap.size + 1) wC.heap.size gi ci cn RD1 pn stop 1 xs _ (hc := by rfl) _ _ _ _ _ _ _ _ _ _ _ _ _ _ _ _ _ _ _ _ _ _ _ _ _ _ _ _ _ _ _ _ _ _ _ _ _ _ _ _ _ _ _ _ _ _ _ _ _ _ _ _ _ _ _ _ _ _ _ _ _ _ _ _ _ _ _ _ _ _ _ _ _ _ _ _ _ _ _ _ _ _ _ _ _ _ _ _ _ _ _ _ _ _ _ _ _ _ _ _ _ _ _ _ HA2.out HRD1 l0 HL.out (.inr rfl) ?_
  intro v11b v12b v13b v14b v15b v28b v29b v30b v31b v32b v33b v34b v35b v36b v37b v38b v39b v40b v41b v42b v43b v44b v45b v46b v47b v48b v49b v50b v51b v52b v53b v54b v55b v56b v57b v58b v59b v60b v61b v62b v63b v64b v65b v66b v67b v68b v69b v70b v71b v72b v73b v74b v75b v76b v77b v78b v79b v80b v81b v82b v83b v84b v85b v86b v87b v88b v89b v90b v91b v92b v93b v94b v95b v96b v97b v98b v99b v100b v101b v102b v103b v104b v105b v106b RD2 D2 W2 HB2 HRD2 HD2 hD2
  show Code.rounds _ _ _ 2 _ _
  rw [rounds_succ]
  have HA3 := hid (HA2.out.on HB2)
  have HD12 := hid ((HB2.block _ (Array.getElem?_eq_some_iff.1 HD1).1).trans HD1)
  refine rnd2 w.heap.size (w.heap.size + 1) wC.heap.size gi ci cn RD2 t pn stop xs _ (hc := by rfl) _ _ _ _ _ _ _ _ _ _ _ _ _ _ _ _ _ _ _ _ _ _ _ _ _ _ _ _ _ _ _ _ _ _ _ _ _ _ _ _ _ _ _ _ _ _ _ _ _ _ _ _ _ _ _ _ _ _ _ _ _ _ _ _ _ _ _ _ _ _ _ _ _ _ _ _ _ _ _ _ _ _ _ _ _ _ _ _ _ _ _ _ _ _ _ _ _ _ _ _ _ _ _ HA3.out HRD2 l0 HL.out ht ?_
  intro v11c v12c v13c v14c v15c v28c v29c v30c v31c v32c v33c v34c v35c v36c v37c v38c v39c v40c v41c v42c v43c v44c v45c v46c v47c v48c v49c v50c v51c v52c v53c v54c v55c v56c v57c v58c v59c v60c v61c v62c v63c v64c v65c v66c v67c v68c v69c v70c v71c v72c v73c v74c v75c v76c v77c v78c v79c v80c v81c v82c v83c v84c v85c v86c v87c v88c v89c v90c v91c v92c v93c v94c v95c v96c v97c v98c v99c v100c v101c v102c v103c v104c v105c v106c RD3 D3 W3 ys hys HA4 HF HRD3 HD3 hD3
  show Code.rounds _ _ _ 1 _ _
  rw [rounds_succ]
  have HD13 := hid (HF _ HD12.out)
  have HD23 := hid (HF _ HD2)
  have HLF := hid (left_k1 gi ci (.slice pn ys.length cn) ys w W3 (by omega) HA4.inn HA4.sq.sx)
  rw [hys] at HLF
  have mR3 := row_cell HRD3 0
  simp only [List.getElem?_toArray, List.getElem?_cons_zero, List.getElem?_cons_succ] at mR3
  have HRC := hid HA4.rc
  have HBL := hid HA4.bel
  have gw := hid (HA4.inn.lt gi rfl)
  have gty := hid (own_ty HA4.inn (g := gi) rfl)
  have HD33 := hid HD3
  have LS := hid (show D1 ≠ D2 ∧ D1 ≠ D3 ∧ D2 ≠ D3 from by
    have a1 := (Array.getElem?_eq_some_iff.1 HD1).1
    have a2 := (Array.getElem?_eq_some_iff.1 HD2).1
    have a3 := HB2.size
    omega)
  have LW := hid (show w.heap.size ≤ D1 ∧ w.heap.size ≤ D2 ∧ w.heap.size ≤ D3 from by
    have a1 := HA1.out.bel.size
    have a2 := HB1.size
    have a3 := HB2.size
    omega)
  clear HA4 HRD3 HD3 HF HD1 HD2 HRD1 HRD2 HB1 HB2 hD1 hD2 hD3 HA1 HA2 HA3 HD12 HAL1 HR1 hys
  go_wp2_with (first | (go_at_call 12; with_reducible refine (HLF.out).mono ?_; rintro e W4 ⟨rfl, hk⟩; have HK := hid hk; have r4 := hid (hk.row HRC.out (fun e => by obtain ⟨c, h⟩ := gty.out; have := HRC.out; rw [e] at this; rw [this] at h; injection h with h; injection h with _ h; exact absurd h (by decide))); have c4 := row_cell r4.out 0; have f4 := frozen_of_row W4 (w.heap.size + 1) 0 _ 4 r4.out; simp only [List.getElem?_toArray, List.getElem?_cons_zero, List.getElem?_cons_succ] at c4; clear hk))
  have FIN := hid (alls_end (R := w.heap.size + 1) (K1.below' HK.out HBL.out gw.out.1) r4.out (by omega) (HK.out.row HD13.out (dgi HD13.out gty.out)) (HK.out.row HD23.out (dgi HD23.out gty.out)) (HK.out.row HD33.out (dgi HD33.out gty.out)) LW.out LS.out)
  refine ⟨by simp, .inl ⟨_, _, rfl, run_takeDeferred FIN.out.1, ?_⟩⟩
  refine ⟨by simp, .inl ⟨_, _, rfl, run_takeDeferred FIN.out.2.1, ?_⟩⟩
  refine ⟨by simp, .inl ⟨_, _, rfl, run_takeDeferred FIN.out.2.2.1, ?_⟩⟩
  have h3 := FIN.out.2.2.2.1
  refine ⟨.bool true, ?_, rfl, FIN.out.2.2.2.2⟩
  simp [results, Tryd.f6, go_sem, h3]
end Go.Proofs.YtndpihbillfhbaaDoor
