/-
  WireAlls: a round that changes no byte. Written by mkwb.py.
-/
import Derived.Test.YtioohpdjmamhgaaDoorWbA
namespace Go.Proofs.YtioohpdjmamhgaaDoor
open Go.RowKit Go.Deep Crc
set_option linter.unusedVariables false
set_option linter.unusedSimpArgs false
set_option maxRecDepth 1000000
set_option maxHeartbeats 8000000
attribute [local go_sem] Oper.semAt_some
/-- the body of the first loop. -/
def lpOf : Code → Option Code
  | .loop c => some c
  | .seq a b => (lpOf a).or (lpOf b)
  | .block _ c => lpOf c
  | .scope c => lpOf c
  | .cond _ a b => (lpOf a).or (lpOf b)
  | _ => none
theorem K1.below {NB : Nat} {W W0 W1 : World} (k : K1 NB W0 W1) (b : Below W.heap.size W W0) (h : W.heap.size ≤ NB) : Below W.heap.size W W1 :=
  ⟨k.os.trans b.os, k.tape.trans b.tape, k.output.trans b.output, Nat.le_trans b.size k.size, fun g hg => (k.obj g (Nat.lt_of_lt_of_le hg b.size) (by omega)).trans (b.block g hg)⟩
theorem rnd (ST RC CB gi ci cn RD : Nat) (pn : Option Addr) (stop r : Int) (cur : List Nat) (ds : List Deferred) {c : Code} (hc : (Tryd.f6.body.bind lpOf) = some c) (u0 u1 u2 u3 u5 u11 u12 u13 u14 u15 u16 u17 u18 u19 u20 u21 u22 u23 u24 u25 u26 u27 u28 u29 u30 u31 u32 u33 u34 u35 u36 u37 u38 u39 u40 u41 u42 u43 u44 u45 u46 u47 u48 u49 u50 u51 u52 u53 u54 u55 u56 u57 u58 u59 u60 u61 u62 u63 u64 u65 u66 u67 u68 u69 u70 u71 u72 u73 u74 u75 u76 u77 u78 u79 u80 u81 u82 u83 u84 u85 u86 u87 u88 u89 u90 u91 u92 u93 u94 u95 u96 u97 u98 u99 u100 u101 u102 u103 u104 u105 u106 u107 u108 u109 : Value) {w W : World} (h : Al w ST RC CB gi ci pn cn stop cur W) (hRD : W.heap[RD]? = some (.cells #[.int .i64 r] 3 (0, 0))) (hlen : cur.length ≤ 1048576) (hL : Laid w) (hr : r = 0 ∨ r = 1)
    {Q : Exit → Act → World → Prop} (hQ : ∀ (v11 v12 v13 v14 v15 v28 v29 v30 v31 v32 v33 v34 v35 v36 v37 v38 v39 v40 v41 v42 v43 v44 v45 v46 v47 v48 v49 v50 v51 v52 v53 v54 v55 v56 v57 v58 v59 v60 v61 v62 v63 v64 v65 v66 v67 v68 v69 v70 v71 v72 v73 v74 v75 v76 v77 v78 v79 v80 v81 v82 v83 v84 v85 v86 v87 v88 v89 v90 v91 v92 v93 v94 v95 v96 v97 v98 v99 v100 v101 v102 v103 v104 v105 v106 : Value) (RD2 D : Nat) (W2 : World), Below W.heap.size W W2 → W2.heap[RD2]? = some (.cells #[.int .i64 (r + 1)] 3 (0, 0)) → W2.heap[D]? = some (.deferred (some [])) → W.heap.size ≤ D → Q .normal { tmps := #[u0, u1, u2, u3, .pointer (some ⟨ST, 0, none⟩), u5, .pointer (some ⟨RC, 0, none⟩), .slice (some ⟨gi, 0, none⟩) (cur.length + 5) ci, .func (.func 28) #[] #[.pointer (some ⟨CB, 0, none⟩)], .slice pn cur.length cn, .pointer (some ⟨RD2, 0, none⟩), v11, v12, v13, v14, v15, u16, u17, u18, u19, u20, u21, u22, u23, u24, u25, u26, u27, v28, v29, v30, v31, v32, v33, v34, v35, v36, v37, v38, v39, v40, v41, v42, v43, v44, v45, v46, v47, v48, v49, v50, v51, v52, v53, v54, v55, v56, v57, v58, v59, v60, v61, v62, v63, v64, v65, v66, v67, v68, v69, v70, v71, v72, v73, v74, v75, v76, v77, v78, v79, v80, v81, v82, v83, v84, v85, v86, v87, v88, v89, v90, v91, v92, v93, v94, v95, v96, v97, v98, v99, v100, v101, v102, v103, v104, v105, v106, u107, u108, u109], defers := { target := .collected D, args := #[] } :: ds } W2) :
    c.wp Tryd.prog Q { tmps := #[u0, u1, u2, u3, .pointer (some ⟨ST, 0, none⟩), u5, .pointer (some ⟨RC, 0, none⟩), .slice (some ⟨gi, 0, none⟩) (cur.length + 5) ci, .func (.func 28) #[] #[.pointer (some ⟨CB, 0, none⟩)], .slice pn cur.length cn, .pointer (some ⟨RD, 0, none⟩), u11, u12, u13, u14, u15, u16, u17, u18, u19, u20, u21, u22, u23, u24, u25, u26, u27, u28, u29, u30, u31, u32, u33, u34, u35, u36, u37, u38, u39, u40, u41, u42, u43, u44, u45, u46, u47, u48, u49, u50, u51, u52, u53, u54, u55, u56, u57, u58, u59, u60, u61, u62, u63, u64, u65, u66, u67, u68, u69, u70, u71, u72, u73, u74, u75, u76, u77, u78, u79, u80, u81, u82, u83, u84, u85, u86, u87, u88, u89, u90, u91, u92, u93, u94, u95, u96, u97, u98, u99, u100, u101, u102, u103, u104, u105, u106, u107, u108, u109], defers := ds } W := by
  simp only [Tryd.f6, lpOf, Option.bind, Option.or] at hc
  injection hc with hc
  subst hc
  have HQ := hid hQ
  have HA := hid h
  have HRD := hid hRD
  have HL := hid hL
  have HRA := hid (rall_any pn cn cur W h.sq h.oc hlen)
  have mR := row_cell hRD 0
  simp only [List.getElem?_toArray, List.getElem?_cons_zero, List.getElem?_cons_succ] at mR
  have hr3 : r < 3 := by omega
  have hr2 : (r == 2) = false := by rcases hr with rfl | rfl <;> rfl
  clear hQ h hRD hL
  go_wp2_with (first | (go_at_call 18; with_reducible refine (HRA.out).mono ?_; rintro e w4 ⟨vs, p', c', rfl, HTL, HOD, HB4⟩; refine Hid.out ?_))
  refine hid ?_
  go_wp2_with fail
  have HB0 := hid (show Below w4.heap.size w4 ((w4.alloc (.cells #[.slice p' vs.length c'] 41)).alloc (.cells #[.int .i64 0] 3)) from ((Below.refl _ w4).alloc (Nat.le_refl _) _).alloc (by simp) _)
  have HBW := hid (show Below W.heap.size W ((w4.alloc (.cells #[.slice p' vs.length c'] 41)).alloc (.cells #[.int .i64 0] 3)) from HB4.out.trans (HB0.out.mono HB4.out.size))
  have HA0 := hid (HA.out.on HBW.out)
  have lS := (Array.getElem?_eq_some_iff.1 HA.out.st).1
  have lR := (Array.getElem?_eq_some_iff.1 HRD.out).1
  have l4 := HB4.out.size
  have HRD0 := hid ((HBW.out.block _ lR).trans HRD.out)
  have HWT := hid (show ((w4.alloc (.cells #[.slice p' vs.length c'] 41)).alloc (.cells #[.int .i64 0] 3)).heap[w4.heap.size]? = some (.cells #[.slice p' vs.length c'] 41 (0, 0)) from by
    rw [Below.heap_alloc _ _ _ (by simp)]; exact World.alloc_heap_new _ _)
  refine (wpIn_wide (n := 5)).1 ?_
  refine waR ST RD w4.heap.size (w4.heap.size + 1) CB (some ⟨gi, 0, none⟩) p' ci c' cur stop r vs ds (has := by rfl) (hc := by rfl) _ _ _ _ _ _ _ _ _ _ _ _ _ _ _ _ _ _ _ _ _ _ _ _ _ _ _ _ _ _ _ _ _ _ _ _ _ _ _ _ _ _ _ _ _ _ _ _ _ _ _ _ _ _ _ _ _ _ _ _ _ _ _ _ _ _ _ _ _ _ _ _ _ _ _ _ _ _ _ _ _ _ _ _ _ _ _ _ _ _ _ _ _ _ _ _ _ _ _ _ _ _ _ _ _ HA0.out.st HRD0.out HWT.out ?_ ((HOD.out.rd HTL.out).on HB0.out) ?_ HTL.out HA0.out.cb HA0.out.sx HA0.out.oc hlen (laid_on HL.out HA0.out.bel) (by omega) (by omega) (by omega) ?_ ?_
  · have := World.alloc_heap_new (w4.alloc (.cells #[.slice p' vs.length c'] 41)) (.cells #[.int .i64 0] 3)
    simpa using this
  · rintro g rfl
    obtain ⟨cu, e⟩ := own_ty HOD.out (g := g) rfl
    have := (Array.getElem?_eq_some_iff.1 e).1
    omega
  · intro a' W' hq
    refine wpIn_exit ?_
    exact hq
  intro D n W1 hD hk hn1 hor hDf
  have mS := row_cell (hk.row HA0.out.st (by omega)) 0
  have mR1 := row_cell (hk.row HRD0.out (by omega)) 0
  have mW := row_cell (hk.row HWT.out (by omega)) 0
  have mN := row_cell hn1 0
  simp only [List.getElem?_toArray, List.getElem?_cons_zero, List.getElem?_cons_succ] at mS mR1 mW mN
  have HB1 := hid (hk.below HBW.out (by omega))
  have HDf := hid hDf
  have HDg := hid (show W.heap.size ≤ D from Nat.le_trans HBW.out.size hD)
  have wr1 : IntKind.i64.wrap (r + 1) = r + 1 := by rcases hr with rfl | rfl <;> rfl
  have HB2 := hid (show ∀ v, Below W.heap.size W (W1.alloc (.cells #[v] 3)) from fun v => HB1.out.alloc HB1.out.size _)
  have HD2 := hid (show ∀ v, (W1.alloc (.cells #[v] 3)).heap[D]? = some (.deferred (some [])) from fun v => by rw [Below.heap_alloc _ _ _ (Array.getElem?_eq_some_iff.1 hDf).1]; exact hDf)
  clear hk hn1 hDf hD mR lS lR l4 hr3 hr2
  by_cases hnv : n = vs.length
  · subst hnv
    clear hor
    go_wp2_with fail
    exact HQ.out _ _ _ _ _ _ _ _ _ _ _ _ _ _ _ _ _ _ _ _ _ _ _ _ _ _ _ _ _ _ _ _ _ _ _ _ _ _ _ _ _ _ _ _ _ _ _ _ _ _ _ _ _ _ _ _ _ _ _ _ _ _ _ _ _ _ _ _ _ _ _ _ _ _ _ _ _ _ _ _ _ _ _ _ W1.heap.size D _ (HB2.out _) (World.alloc_heap_new _ _) (HD2.out _) HDg.out
  · have x1 : ((n : Int) != (vs.length : Int)) = true := by simp; omega
    obtain ⟨hr0, hs⟩ := hor.resolve_left hnv
    have x2 : ((n : Int) == stop) = true := by simpa using hs
    subst hr0
    clear hor hnv hs
    go_wp2_with fail
    exact HQ.out _ _ _ _ _ _ _ _ _ _ _ _ _ _ _ _ _ _ _ _ _ _ _ _ _ _ _ _ _ _ _ _ _ _ _ _ _ _ _ _ _ _ _ _ _ _ _ _ _ _ _ _ _ _ _ _ _ _ _ _ _ _ _ _ _ _ _ _ _ _ _ _ _ _ _ _ _ _ _ _ _ _ _ _ W1.heap.size D _ (HB2.out _) (World.alloc_heap_new _ _) (HD2.out _) HDg.out
end Go.Proofs.YtioohpdjmamhgaaDoor
