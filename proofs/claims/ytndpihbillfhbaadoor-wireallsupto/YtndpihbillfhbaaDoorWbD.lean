/-
  WireAlls: the round that turns the bytes. Written by mkwd.py.
-/
import Derived.Test.YtndpihbillfhbaaDoorWbC
import Derived.Laws.BitsAllLaws
namespace Go.Proofs.YtndpihbillfhbaaDoor
open Go.RowKit Go.Deep Crc
set_option linter.unusedVariables false
set_option linter.unusedSimpArgs false
set_option maxRecDepth 1000000
set_option maxHeartbeats 8000000
attribute [local go_sem] Oper.semAt_some
/-- the first i bytes are turned. -/
def xf (t i : Nat) (l : List Nat) : List Nat := (l.take i).map (fun x => x ^^^ t) ++ l.drop i
theorem xf_len (t i : Nat) (l : List Nat) : (xf t i l).length = l.length := by simp [xf]; omega
theorem xf_zero (t : Nat) (l : List Nat) : xf t 0 l = l := by simp [xf]
theorem xf_all (t : Nat) (l : List Nat) : xf t l.length l = l.map (fun x => x ^^^ t) := by simp [xf]
theorem xf_get {t i : Nat} {l : List Nat} (h : i < l.length) : (xf t i l)[i]'(by rw [xf_len]; exact h) = l[i] := by
  have e : ((l.take i).map (fun x => x ^^^ t)).length = i := by simp; omega
  unfold xf
  rw [List.getElem_append_right (by omega), List.getElem_drop]
  simp only [e, Nat.sub_self, Nat.add_zero]
theorem xf_set {t i : Nat} {l : List Nat} (h : i < l.length) : (xf t i l).set i (l[i] ^^^ t) = xf t (i + 1) l := by
  unfold xf
  rw [List.set_append_right _ _ (by simp; omega)]
  have e : i - ((l.take i).map (fun x => x ^^^ t)).length = 0 := by simp; omega
  rw [e, List.drop_eq_getElem_cons h, List.set_cons_zero, List.take_succ_eq_append_getElem h, List.map_append, List.append_assoc]
  rfl
theorem xf_oct {t i : Nat} {l : List Nat} (ht : t < 256) (h : Oct l) : Oct (xf t i l) := by
  intro x hx
  rcases List.mem_append.1 hx with h1 | h1
  · obtain ⟨y, hy, rfl⟩ := List.mem_map.1 h1
    exact Nat.xor_lt_two_pow (n := 8) (h y (List.mem_of_mem_take hy)) ht
  · exact h x (List.mem_of_mem_drop h1)
/-- both slices of bytes get one more byte turned. -/
theorem Al.turn {w : World} {ST RC CB gi ci gp cn : Nat} {stop : Int} {ys : List Nat} {W : World} (h : Al w ST RC CB gi ci (some ⟨gp, 0, none⟩) cn stop ys W) {i x : Nat} (hi : i < ys.length) (hx : x < 256) :
    Al w ST RC CB gi ci (some ⟨gp, 0, none⟩) cn stop (ys.set i x) ((W.setCell ⟨gp, i, none⟩ (.int .u8 (x : Nat))).setCell ⟨gi, i, none⟩ (.int .u8 (x : Nat))) := by
  have hne : gp ≠ gi := h.ap gp rfl
  obtain ⟨c1, e1⟩ := own_ty h.now (g := gp) rfl
  obtain ⟨c2, e2⟩ := own_ty h.inn (g := gi) rfl
  have oth : ∀ {j : Nat} {o : Obj}, W.heap[j]? = some o → j ≠ gp → j ≠ gi → ((W.setCell ⟨gp, i, none⟩ (.int .u8 (x : Nat))).setCell ⟨gi, i, none⟩ (.int .u8 (x : Nat))).heap[j]? = some o := fun {j o} e n1 n2 => by
    rw [heap_setCell_other _ _ _ _ (by show j ≠ gi; exact n2), heap_setCell_other _ _ _ _ (by show j ≠ gp; exact n1)]; exact e
  have dif : ∀ {j : Nat} {c : Array Value} {t : TypeId}, W.heap[j]? = some (.cells c t (0, 0)) → t ≠ 5 → ((W.setCell ⟨gp, i, none⟩ (.int .u8 (x : Nat))).setCell ⟨gi, i, none⟩ (.int .u8 (x : Nat))).heap[j]? = some (.cells c t (0, 0)) := fun {j c t} e ht =>
    oth e (by rintro rfl; rw [e] at e1; injection e1 with e1; injection e1 with _ e1; exact ht e1) (by rintro rfl; rw [e] at e2; injection e2 with e2; injection e2 with _ e2; exact ht e2)
  have b1 : w.heap.size ≤ gp := (h.now.lt gp rfl).1
  have b2 : w.heap.size ≤ gi := (h.inn.lt gi rfl).1
  refine ⟨dif h.st (by decide), dif h.rc (by decide), by rw [List.length_set]; exact dif h.cb (by decide), ?_, ?_, h.ap, (h.bel.setCell b1 _).setCell b2 _, ?_⟩
  · have h1 := own_kept (g := gp) (i := i) (u := .int .u8 (x : Nat)) h.inn (fun g' hg' => by cases hg'; exact fun e => hne e.symm)
    have h2 := own_set h1 (i := i) (by omega) x
    rw [List.set_append_left _ _ hi] at h2
    rw [List.length_set]; exact h2
  · have h1 := own_set h.now (i := i) hi x
    rw [List.length_set]
    exact own_kept h1 (fun g' hg' => by cases hg'; exact hne)
  · intro y hy
    rcases List.mem_or_eq_of_mem_set hy with h1 | h1
    · exact h.oc y h1
    · omega
theorem Al.fits {w : World} {ST RC CB gi ci gp cn : Nat} {stop : Int} {ys : List Nat} {W : World} (h : Al w ST RC CB gi ci (some ⟨gp, 0, none⟩) cn stop ys W) {i : Nat} (hi : i < ys.length) :
    W.cell? ⟨gp, i, none⟩ = some (.int .u8 ((ys[i] : Nat) : Int)) ∧ W.frozen? ⟨gp, i, none⟩ = false ∧ W.frozen? ⟨gi, i, none⟩ = false ∧ ∃ y0, W.cell? ⟨gi, i, none⟩ = some y0 := by
  obtain ⟨c1, e1⟩ := own_ty h.now (g := gp) rfl
  obtain ⟨c2, e2⟩ := own_ty h.inn (g := gi) rfl
  refine ⟨?_, frozen_of_row W gp i _ 5 e1, frozen_of_row W gi i _ 5 e2, ?_⟩
  · have := World.ownsRow.cellAt h.now i (by omega)
    rw [bv_get ys i hi] at this
    simpa using this
  · have := World.ownsRow.cellAt h.inn i (by omega)
    rw [bv_get (ys ++ [1, 2, 3, 4, 5]) i (by simp; omega)] at this
    exact ⟨_, by simpa using this⟩
theorem rnd2 (ST RC CB gi ci cn RD t : Nat) (pn : Option Addr) (stop : Int) (cur : List Nat) (ds : List Deferred) {c : Code} (hc : (Tryd.f6.body.bind lpOf) = some c) (u0 u1 u3 u5 u11 u12 u13 u14 u15 u16 u17 u18 u19 u20 u21 u22 u23 u24 u25 u26 u27 u28 u29 u30 u31 u32 u33 u34 u35 u36 u37 u38 u39 u40 u41 u42 u43 u44 u45 u46 u47 u48 u49 u50 u51 u52 u53 u54 u55 u56 u57 u58 u59 u60 u61 u62 u63 u64 u65 u66 u67 u68 u69 u70 u71 u72 u73 u74 u75 u76 u77 u78 u79 u80 u81 u82 u83 u84 u85 u86 u87 u88 u89 u90 u91 u92 u93 u94 u95 u96 u97 u98 u99 u100 u101 u102 u103 u104 u105 u106 u107 u108 u109 : Value) {w W : World} (h : Al w ST RC CB gi ci pn cn stop cur W) (hRD : W.heap[RD]? = some (.cells #[.int .i64 2] 3 (0, 0))) (hlen : cur.length ≤ 1048576) (hL : Laid w) (ht : t < 256)
    {Q : Exit → Act → World → Prop} (hQ : ∀ (v11 v12 v13 v14 v15 v28 v29 v30 v31 v32 v33 v34 v35 v36 v37 v38 v39 v40 v41 v42 v43 v44 v45 v46 v47 v48 v49 v50 v51 v52 v53 v54 v55 v56 v57 v58 v59 v60 v61 v62 v63 v64 v65 v66 v67 v68 v69 v70 v71 v72 v73 v74 v75 v76 v77 v78 v79 v80 v81 v82 v83 v84 v85 v86 v87 v88 v89 v90 v91 v92 v93 v94 v95 v96 v97 v98 v99 v100 v101 v102 v103 v104 v105 v106 : Value) (RD2 D : Nat) (W2 : World) (ys : List Nat), ys.length = cur.length → Al w ST RC CB gi ci pn cn stop ys W2 → (∀ g : Nat, W.heap[g]? = some (Obj.deferred (some [])) → W2.heap[g]? = some (Obj.deferred (some []))) → W2.heap[RD2]? = some (.cells #[.int .i64 3] 3 (0, 0)) → W2.heap[D]? = some (Obj.deferred (some [])) → W.heap.size ≤ D → Q .normal { tmps := #[u0, u1, .int .u8 (t : Nat), u3, .pointer (some ⟨ST, 0, none⟩), u5, .pointer (some ⟨RC, 0, none⟩), .slice (some ⟨gi, 0, none⟩) (cur.length + 5) ci, .func (.func 28) #[] #[.pointer (some ⟨CB, 0, none⟩)], .slice pn cur.length cn, .pointer (some ⟨RD2, 0, none⟩), v11, v12, v13, v14, v15, u16, u17, u18, u19, u20, u21, u22, u23, u24, u25, u26, u27, v28, v29, v30, v31, v32, v33, v34, v35, v36, v37, v38, v39, v40, v41, v42, v43, v44, v45, v46, v47, v48, v49, v50, v51, v52, v53, v54, v55, v56, v57, v58, v59, v60, v61, v62, v63, v64, v65, v66, v67, v68, v69, v70, v71, v72, v73, v74, v75, v76, v77, v78, v79, v80, v81, v82, v83, v84, v85, v86, v87, v88, v89, v90, v91, v92, v93, v94, v95, v96, v97, v98, v99, v100, v101, v102, v103, v104, v105, v106, u107, u108, u109], defers := { target := .collected D, args := #[] } :: ds } W2) :
    c.wp Tryd.prog Q { tmps := #[u0, u1, .int .u8 (t : Nat), u3, .pointer (some ⟨ST, 0, none⟩), u5, .pointer (some ⟨RC, 0, none⟩), .slice (some ⟨gi, 0, none⟩) (cur.length + 5) ci, .func (.func 28) #[] #[.pointer (some ⟨CB, 0, none⟩)], .slice pn cur.length cn, .pointer (some ⟨RD, 0, none⟩), u11, u12, u13, u14, u15, u16, u17, u18, u19, u20, u21, u22, u23, u24, u25, u26, u27, u28, u29, u30, u31, u32, u33, u34, u35, u36, u37, u38, u39, u40, u41, u42, u43, u44, u45, u46, u47, u48, u49, u50, u51, u52, u53, u54, u55, u56, u57, u58, u59, u60, u61, u62, u63, u64, u65, u66, u67, u68, u69, u70, u71, u72, u73, u74, u75, u76, u77, u78, u79, u80, u81, u82, u83, u84, u85, u86, u87, u88, u89, u90, u91, u92, u93, u94, u95, u96, u97, u98, u99, u100, u101, u102, u103, u104, u105, u106, u107, u108, u109], defers := ds } W := by
  simp only [Tryd.f6, lpOf, Option.bind, Option.or] at hc
  injection hc with hc
  subst hc
  have HQ := hid hQ
  have HA := hid h
  have HRD := hid hRD
  have HL := hid hL
  have mR := row_cell hRD 0
  simp only [List.getElem?_toArray, List.getElem?_cons_zero, List.getElem?_cons_succ] at mR
  clear hQ h hRD hL
  go_wp2_with fail
  clear mR
  go_loopw [11] (fun iv wr => ∃ (i : Nat), i ≤ cur.length ∧ iv = .int .i64 i ∧ Hid (Al w ST RC CB gi ci pn cn stop (xf t i cur) wr) ∧ Hid (wr.heap[RD]? = some (.cells #[.int .i64 2] 3 (0, 0))) ∧ Hid (∀ g : Nat, W.heap[g]? = some (Obj.deferred (some [])) → wr.heap[g]? = some (Obj.deferred (some []))) ∧ W.heap.size ≤ wr.heap.size) (fun iv _ => cur.length - (intOf iv).toNat)
  case atStart => exact ⟨0, by omega, rfl, by rw [xf_zero]; exact HA.out, HRD.out, fun _ h => h, Nat.le_refl _⟩
  case round =>
    obtain ⟨i, hi, rfl, HR, HD, HF, hsz⟩ := hrel
    by_cases hlt : i < cur.length
    · have hi2 : i < (xf t i cur).length := by rw [xf_len]; exact hlt
      obtain ⟨gp, rfl⟩ : ∃ gp, pn = some ⟨gp, 0, none⟩ := by
        obtain ⟨_, ⟨e, e2⟩ | ⟨g, c, cu, e, _⟩⟩ := HR.out.now
        · exfalso; rw [xf_len] at e2; omega
        · exact ⟨g, (Value.slice.inj e).1⟩
      obtain ⟨f1, f2, f3, y0, f4⟩ := HR.out.fits hi2
      rw [xf_get hlt] at f1
      have hne : gp ≠ gi := HR.out.ap gp rfl
      have hlc := HR.out.oc _ (List.getElem_mem hi2)
      rw [xf_get hlt] at hlc
      have hxl : cur[i] ^^^ t < 256 := Nat.xor_lt_two_pow (n := 8) hlc ht
      obtain ⟨z, hz⟩ : ∃ z, cur[i] = z := ⟨_, rfl⟩
      obtain ⟨x, hxx⟩ : ∃ x, cur[i] ^^^ t = x := ⟨_, rfl⟩
      have HN := hid (HR.out.turn hi2 (x := cur[i] ^^^ t) hxl)
      rw [xf_set hlt, hxx] at HN
      have HDn := hid (show ((wr.setCell ⟨gp, i, none⟩ (.int .u8 (x : Nat))).setCell ⟨gi, i, none⟩ (.int .u8 (x : Nat))).heap[RD]? = some (.cells #[.int .i64 2] 3 (0, 0)) from by
        obtain ⟨c1, e1⟩ := own_ty HR.out.now (g := gp) rfl
        obtain ⟨c2, e2⟩ := own_ty HR.out.inn (g := gi) rfl
        have e := HD.out
        rw [heap_setCell_other _ _ _ _ (by show RD ≠ gi; rintro rfl; rw [e] at e2; injection e2 with e2; injection e2 with _ e2; exact absurd e2 (by decide)), heap_setCell_other _ _ _ _ (by show RD ≠ gp; rintro rfl; rw [e] at e1; injection e1 with e1; injection e1 with _ e1; exact absurd e1 (by decide))]
        exact e)
      have HFn := hid (show ∀ g : Nat, W.heap[g]? = some (Obj.deferred (some [])) → ((wr.setCell ⟨gp, i, none⟩ (.int .u8 (x : Nat))).setCell ⟨gi, i, none⟩ (.int .u8 (x : Nat))).heap[g]? = some (Obj.deferred (some [])) from fun g hg => by
        obtain ⟨c1, e1⟩ := own_ty HR.out.now (g := gp) rfl
        obtain ⟨c2, e2⟩ := own_ty HR.out.inn (g := gi) rfl
        have e := HF.out g hg
        rw [heap_setCell_other _ _ _ _ (by show g ≠ gi; rintro rfl; rw [e] at e2; cases e2), heap_setCell_other _ _ _ _ (by show g ≠ gp; rintro rfl; rw [e] at e1; cases e1)]
        exact e)
      have hsz2 : W.heap.size ≤ ((wr.setCell ⟨gp, i, none⟩ (.int .u8 (x : Nat))).setCell ⟨gi, i, none⟩ (.int .u8 (x : Nat))).heap.size := by simpa [World.setCell] using hsz
      have hxor : bits .xor .u8 (z : Int) (t : Int) = (x : Int) := by rw [u8_xor_nat _ _ (by omega) ht, ← hxx, hz]
      rw [hz] at f1
      have i0 : (0 : Int) ≤ (i : Int) := by omega
      have i1 : (i : Int) < (cur.length : Int) := by omega
      have i2 : (i : Int) < (cur.length : Int) + 5 := by omega
      clear HR HD HF hxx hz hlc hxl hi2 hsz
      go_wp2
      go_roundw
      case rel => exact ⟨i + 1, by omega, by go_num, HN.out, HDn.out, HFn.out, hsz2⟩
      case measure => simp [intOf]; omega
    · have hi5 : i = cur.length := by omega
      subst hi5
      obtain ⟨ys, hys⟩ : ∃ ys, xf t cur.length cur = ys := ⟨_, rfl⟩
      have hyl : ys.length = cur.length := by rw [← hys, xf_len]
      rw [hys] at HR
      clear hys hi hlt
      rw [← hyl]
      rw [← hyl] at hlen HQ
      have HA := HR
      clear HR hyl
      have mR := row_cell HD.out 0
      simp only [List.getElem?_toArray, List.getElem?_cons_zero, List.getElem?_cons_succ] at mR
      have HRA := hid (rall_any pn cn ys wr HA.out.sq HA.out.oc hlen)
      go_wp2_with (first | (go_at_call 18; with_reducible refine (HRA.out).mono ?_; rintro e w4 ⟨vs, p', c', rfl, HTL, HOD, HB4⟩; refine Hid.out ?_))
      refine hid ?_
      go_wp2_with fail
      have HB0 := hid (show Below w4.heap.size w4 ((w4.alloc (.cells #[.slice p' vs.length c'] 41)).alloc (.cells #[.int .i64 0] 3)) from ((Below.refl _ w4).alloc (Nat.le_refl _) _).alloc (by simp) _)
      have HBW := hid (show Below wr.heap.size wr ((w4.alloc (.cells #[.slice p' vs.length c'] 41)).alloc (.cells #[.int .i64 0] 3)) from HB4.out.trans (HB0.out.mono HB4.out.size))
      have HA0 := hid (HA.out.on HBW.out)
      have lS := (Array.getElem?_eq_some_iff.1 HA.out.st).1
      have lR := (Array.getElem?_eq_some_iff.1 HD.out).1
      have l4 := HB4.out.size
      have HRD0 := hid ((HBW.out.block _ lR).trans HD.out)
      have HWT := hid (show ((w4.alloc (.cells #[.slice p' vs.length c'] 41)).alloc (.cells #[.int .i64 0] 3)).heap[w4.heap.size]? = some (.cells #[.slice p' vs.length c'] 41 (0, 0)) from by
        rw [Below.heap_alloc _ _ _ (by simp)]; exact World.alloc_heap_new _ _)
      refine (wpIn_wide (n := 5)).1 ?_
      refine waR ST RD w4.heap.size (w4.heap.size + 1) CB (some ⟨gi, 0, none⟩) p' ci c' ys stop 2 vs ds (has := by rfl) (hc := by rfl) _ _ _ _ _ _ _ _ _ _ _ _ _ _ _ _ _ _ _ _ _ _ _ _ _ _ _ _ _ _ _ _ _ _ _ _ _ _ _ _ _ _ _ _ _ _ _ _ _ _ _ _ _ _ _ _ _ _ _ _ _ _ _ _ _ _ _ _ _ _ _ _ _ _ _ _ _ _ _ _ _ _ _ _ _ _ _ _ _ _ _ _ _ _ _ _ _ _ _ _ _ _ _ _ _ HA0.out.st HRD0.out HWT.out ?_ ((HOD.out.rd HTL.out).on HB0.out) ?_ HTL.out HA0.out.cb HA0.out.sx HA0.out.oc hlen (laid_on HL.out HA0.out.bel) (by omega) (by omega) (by omega) ?_ ?_
      · have := World.alloc_heap_new (w4.alloc (.cells #[.slice p' vs.length c'] 41)) (.cells #[.int .i64 0] 3)
        simpa using this
      · rintro g rfl
        obtain ⟨cu, e⟩ := own_ty HOD.out (g := g) rfl
        have := (Array.getElem?_eq_some_iff.1 e).1
        omega
      · intro a' W' hq
        refine wpIn_exit ?_
        exact hq
      intro D n W1 hD hk hn1 hor hDf
      have mS := row_cell (hk.row HA0.out.st (by omega)) 0
      have mR1 := row_cell (hk.row HRD0.out (by omega)) 0
      have mW := row_cell (hk.row HWT.out (by omega)) 0
      have mN := row_cell hn1 0
      simp only [List.getElem?_toArray, List.getElem?_cons_zero, List.getElem?_cons_succ] at mS mR1 mW mN
      have HB1 := hid (hk.below HBW.out (by omega))
      have HDg := hid (show W.heap.size ≤ D from Nat.le_trans hsz (Nat.le_trans HBW.out.size hD))
      have HA2 := hid (show ∀ v, Al w ST RC CB gi ci pn cn stop ys (W1.alloc (.cells #[v] 3)) from fun v => HA.out.on (HB1.out.alloc HB1.out.size _))
      have HF2 := hid (show ∀ v, ∀ g : Nat, W.heap[g]? = some (Obj.deferred (some [])) → (W1.alloc (.cells #[v] 3)).heap[g]? = some (Obj.deferred (some [])) from fun v g hg => by
        have e := HF.out g hg
        exact ((HB1.out.alloc HB1.out.size _).block g (Array.getElem?_eq_some_iff.1 e).1).trans e)
      have HD2 := hid (show ∀ v, (W1.alloc (.cells #[v] 3)).heap[D]? = some (.deferred (some [])) from fun v => by rw [Below.heap_alloc _ _ _ (Array.getElem?_eq_some_iff.1 hDf).1]; exact hDf)
      obtain rfl : n = vs.length := hor.resolve_right (fun h => by have := h.1; omega)
      clear hk hn1 hDf hD mR lS lR l4 hor hsz
      go_wp2_with fail
      exact HQ.out _ _ _ _ _ _ _ _ _ _ _ _ _ _ _ _ _ _ _ _ _ _ _ _ _ _ _ _ _ _ _ _ _ _ _ _ _ _ _ _ _ _ _ _ _ _ _ _ _ _ _ _ _ _ _ _ _ _ _ _ _ _ _ _ _ _ _ _ _ _ _ _ _ _ _ _ _ _ _ _ _ _ _ _ W1.heap.size D _ ys rfl (HA2.out _) (HF2.out _) (World.alloc_heap_new _ _) (HD2.out _) HDg.out
end Go.Proofs.YtndpihbillfhbaaDoor
