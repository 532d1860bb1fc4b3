/-
  The law takes a refresh. Written by mksw.py.
-/
import Derived.Test.YtalgndgoedlpoaaRuPh
namespace Go.Proofs.Ytalgndgoedlpoaa
open Go.RowKit Go.Deep Go.Shelf
set_option linter.unusedVariables false
set_option linter.unusedSimpArgs false
set_option maxHeartbeats 8000000
set_option maxRecDepth 100000
attribute [local go_sem ↓] Go.wp_at_zero Go.wp_at_succ
theorem sw_ref {V U : World} {A E X ge m q3 j : Nat} {F : Nat → Prop} {b : Bs} {x1 x2 : Option Addr} {y1 y2 : Nat} {left : Int} {p : Option Addr} {n c : Nat} {e : Ev} {es : List Ev} (s : Sw V U A E X ge m j F b x1 x2 y1 y2 e es) {a : Ev} {y : Or} {r : List Or} (hol : n = (y :: r).length) (had : a.sd = 1 ∨ a.sd = 2) (hA : U.heap[A]? = some (.cells (ecs a).toArray 58 (0, 0))) (k4 : Sd U F p c (y :: r)) (ob : OrB y) (kd : e.kd = 5) (hrl : r.length ≤ 1048576) (i1 : y.id = e.id) (i2 : y.vi = 0) (i3 : y.hi ≠ 0) (i4 : y.pk ≠ 0) (i5 : e.pr = y.pr) (hqt : e.qt = y.shn.vi) (kp : Pr a left (inO (bhO (oth a.sd) y.pr r) y.shn r) es) {cd : Code} (hc : (Try.f7.body.bind (blk 4)) = some cd) (u0 u1 u2 u3 u4 u5 u6 u7 u15 u16 u17 u18 u19 u20 u21 u22 u23 u24 u25 u26 u27 u28 u29 u30 u31 u32 u33 u34 u35 u36 u37 u38 u39 u40 u41 u42 u43 u44 u45 u46 u47 u48 u49 u50 u51 u52 u53 u54 u55 u57 u58 u59 u60 u61 u62 u63 u64 u65 u66 u67 u68 u69 u70 u71 u72 u73 u74 u75 u76 u77 u78 u79 u80 u81 u82 u83 u84 u85 u86 u87 u88 u89 u90 u91 u92 u93 u94 u95 u96 u97 u98 u99 u100 u101 u102 u103 u104 u105 u106 u107 u108 u109 u110 u111 u112 u113 u114 u115 u116 u117 u118 u119 u120 u121 u122 u123 u124 u125 u126 u127 u128 u129 u130 u131 u132 u133 u134 u135 u136 u137 u138 u139 u140 u141 u142 u143 u144 u145 u146 u147 u148 u149 u150 u151 u152 u153 u154 u155 u156 u157 u158 u159 u160 u161 u162 u163 u164 u165 u166 u167 u168 u169 u170 u171 u172 u173 u174 u175 u176 u177 u178 u179 u180 u181 u182 u183 u184 u185 u186 u187 u188 u189 u190 u191 u192 u193 u194 u195 u196 u197 u198 u199 u200 u201 u202 u203 u204 u205 u206 u207 u208 u209 u210 u211 u212 u213 u214 u215 u216 u217 u218 u219 u220 u221 u222 u223 u224 u225 u226 u227 u228 u229 u230 u231 u232 u233 u234 u235 u236 u237 u238 u239 u240 u241 u242 u243 u244 u245 u246 u247 u248 u249 u250 u251 u252 u253 u254 u255 u256 u257 u258 u259 u260 u261 u262 u263 u264 u265 u266 u267 u268 u269 u270 u271 u272 u273 u274 u275 u276 u277 u278 u279 u280 u281 u282 u283 u284 u285 u286 u287 u288 u289 u290 u291 u292 u293 u294 u295 u296 u297 u298 u299 u300 u301 u302 u303 u304 u305 u306 u307 u308 u309 u310 u311 u312 u313 u314 u315 u316 u317 u318 u319 : Value)
    {Q : Exit → Act → World → Prop} (hQ : ∀ (left2 : Int) (p2 : Option Addr) (n2 c2 : Nat) (U2 : World) (v15 v16 v57 v58 v59 v60 v61 v62 v63 v64 v65 v66 v67 v68 v69 v70 v71 v72 v73 v74 v75 v76 v77 v78 v79 v80 v81 v82 v83 v84 v85 v86 v87 v88 v89 v90 v91 v92 v93 v94 v95 v96 v97 v98 v99 v100 v101 v102 v103 v104 v105 v106 v107 v108 v109 v110 v111 v112 v113 v114 v115 v116 v117 v118 v119 v120 v121 v122 v123 v124 v125 v126 v127 v128 v129 v130 v131 v132 v133 v134 v135 v136 v137 v138 v139 v140 v141 v142 v143 v144 v145 v146 v147 v148 v149 v150 v151 v152 v153 v154 v155 v156 v157 v158 v159 v160 v161 v162 v163 v164 v165 v166 v167 v168 v169 v170 v171 v172 v173 v174 v175 v176 v177 v178 v179 v180 v181 v182 v183 v184 v185 v186 v187 v188 v189 v190 v191 v192 v193 v194 v195 v196 v197 v198 v199 v200 v201 v202 v203 v204 v205 v206 v207 v208 v209 v210 v211 v212 v213 v214 v215 v216 v217 v218 v219 v220 v221 v222 v223 v224 v225 v226 v227 v228 v229 v230 v231 v232 v233 v234 v235 v236 v237 v238 v239 v240 v241 v242 v243 v244 v245 v246 v247 v248 v249 v250 v251 v252 v253 v254 v255 v256 v257 v258 v259 v260 v261 v262 v263 v264 v265 v266 v267 v268 v269 v270 v271 v272 v273 v274 v275 v276 v277 v278 v279 v280 v281 v282 v283 v284 v285 v286 v287 v288 v289 v290 v291 v292 v293 v294 v295 v296 v297 v298 v299 v300 v301 v302 v303 v304 v305 v306 v307 v308 v309 v310 v311 v312 v313 v314 v315 v316 v317 v318 v319 : Value), Kp (fun j => j = A ∨ F j) V U2 → Hl b A F (.slice x1 b.l1.length y1) (.slice x2 b.l2.length y2) U2 left2 p2 n2 c2 es → Q .normal { tmps := #[u0, u1, u2, u3, u4, u5, u6, u7, .pointer (some ⟨X, 0, none⟩), .slice (some ⟨ge, 0, none⟩) m q3, .pointer (some ⟨A, 0, none⟩), .int .u64 left2, .slice p2 n2 c2, .int .i64 (j : Int), .pointer (some ⟨E, 0, none⟩), v15, v16, u17, u18, u19, u20, u21, u22, u23, u24, u25, u26, u27, u28, u29, u30, u31, u32, u33, u34, u35, u36, u37, u38, u39, u40, u41, u42, u43, u44, u45, u46, u47, u48, u49, u50, u51, u52, u53, u54, u55, .int .i64 e.kd, v57, v58, v59, v60, v61, v62, v63, v64, v65, v66, v67, v68, v69, v70, v71, v72, v73, v74, v75, v76, v77, v78, v79, v80, v81, v82, v83, v84, v85, v86, v87, v88, v89, v90, v91, v92, v93, v94, v95, v96, v97, v98, v99, v100, v101, v102, v103, v104, v105, v106, v107, v108, v109, v110, v111, v112, v113, v114, v115, v116, v117, v118, v119, v120, v121, v122, v123, v124, v125, v126, v127, v128, v129, v130, v131, v132, v133, v134, v135, v136, v137, v138, v139, v140, v141, v142, v143, v144, v145, v146, v147, v148, v149, v150, v151, v152, v153, v154, v155, v156, v157, v158, v159, v160, v161, v162, v163, v164, v165, v166, v167, v168, v169, v170, v171, v172, v173, v174, v175, v176, v177, v178, v179, v180, v181, v182, v183, v184, v185, v186, v187, v188, v189, v190, v191, v192, v193, v194, v195, v196, v197, v198, v199, v200, v201, v202, v203, v204, v205, v206, v207, v208, v209, v210, v211, v212, v213, v214, v215, v216, v217, v218, v219, v220, v221, v222, v223, v224, v225, v226, v227, v228, v229, v230, v231, v232, v233, v234, v235, v236, v237, v238, v239, v240, v241, v242, v243, v244, v245, v246, v247, v248, v249, v250, v251, v252, v253, v254, v255, v256, v257, v258, v259, v260, v261, v262, v263, v264, v265, v266, v267, v268, v269, v270, v271, v272, v273, v274, v275, v276, v277, v278, v279, v280, v281, v282, v283, v284, v285, v286, v287, v288, v289, v290, v291, v292, v293, v294, v295, v296, v297, v298, v299, v300, v301, v302, v303, v304, v305, v306, v307, v308, v309, v310, v311, v312, v313, v314, v315, v316, v317, v318, v319], defers := [] } U2) :
    cd.wp Try.prog Q { tmps := #[u0, u1, u2, u3, u4, u5, u6, u7, .pointer (some ⟨X, 0, none⟩), .slice (some ⟨ge, 0, none⟩) m q3, .pointer (some ⟨A, 0, none⟩), .int .u64 left, .slice p n c, .int .i64 (j : Int), .pointer (some ⟨E, 0, none⟩), u15, u16, u17, u18, u19, u20, u21, u22, u23, u24, u25, u26, u27, u28, u29, u30, u31, u32, u33, u34, u35, u36, u37, u38, u39, u40, u41, u42, u43, u44, u45, u46, u47, u48, u49, u50, u51, u52, u53, u54, u55, .int .i64 e.kd, u57, u58, u59, u60, u61, u62, u63, u64, u65, u66, u67, u68, u69, u70, u71, u72, u73, u74, u75, u76, u77, u78, u79, u80, u81, u82, u83, u84, u85, u86, u87, u88, u89, u90, u91, u92, u93, u94, u95, u96, u97, u98, u99, u100, u101, u102, u103, u104, u105, u106, u107, u108, u109, u110, u111, u112, u113, u114, u115, u116, u117, u118, u119, u120, u121, u122, u123, u124, u125, u126, u127, u128, u129, u130, u131, u132, u133, u134, u135, u136, u137, u138, u139, u140, u141, u142, u143, u144, u145, u146, u147, u148, u149, u150, u151, u152, u153, u154, u155, u156, u157, u158, u159, u160, u161, u162, u163, u164, u165, u166, u167, u168, u169, u170, u171, u172, u173, u174, u175, u176, u177, u178, u179, u180, u181, u182, u183, u184, u185, u186, u187, u188, u189, u190, u191, u192, u193, u194, u195, u196, u197, u198, u199, u200, u201, u202, u203, u204, u205, u206, u207, u208, u209, u210, u211, u212, u213, u214, u215, u216, u217, u218, u219, u220, u221, u222, u223, u224, u225, u226, u227, u228, u229, u230, u231, u232, u233, u234, u235, u236, u237, u238, u239, u240, u241, u242, u243, u244, u245, u246, u247, u248, u249, u250, u251, u252, u253, u254, u255, u256, u257, u258, u259, u260, u261, u262, u263, u264, u265, u266, u267, u268, u269, u270, u271, u272, u273, u274, u275, u276, u277, u278, u279, u280, u281, u282, u283, u284, u285, u286, u287, u288, u289, u290, u291, u292, u293, u294, u295, u296, u297, u298, u299, u300, u301, u302, u303, u304, u305, u306, u307, u308, u309, u310, u311, u312, u313, u314, u315, u316, u317, u318, u319], defers := [] } U := by
  simp only [Try.f7, blk, Option.bind, Option.or, Nat.reduceEqDiff, reduceCtorEq, if_false, if_true, reduceIte] at hc
  injection hc with hc
  subst hc
  have HQ := hid hQ
  clear hQ
  refine Go.wp_mono (Q := fun e a w => e = .normal ∧ Q .normal a w) ?_ (by rintro e a w ⟨rfl, h⟩; exact h)
  obtain ⟨e0, e1, e2, e3, e4, e5, e6, e7, e8, e9, e10, e11, e12⟩ := ev_row s.ex
  have hol' : n = r.length + 1 := hol
  have h0n : (0 : Int) < (n : Int) := by rw [hol']; exact Int.natCast_pos.2 (Nat.succ_pos _)
  have hnb : ((n : Int) == 0) = false := by rw [beq_eq_false_iff_ne]; exact Ne.symm (Int.ne_of_lt h0n)
  obtain ⟨g, off, cur, rfl, hFg, hrg, z0, z1, z2, z3, z4, z5, z6, fz⟩ := k4.head
  obtain ⟨a0, a1, a2, a3, a4, a5, a6, a7, a8, a9, a10, a11, a12⟩ := ev_row hA
  have K4 := hid k4
  have HFG := hid hFg
  have HRG := hid hrg
  have HOL := hid hol'
  have HOB := hid ob
  have HS := hid s
  have KA := hid hA
  clear k4 hFg hrg hol hol' ob s hA
  have HKP5 := hid kp
  have HAD := hid had
  have HQT := hid hqt
  have HRL := hid hrl
  rw [← i1] at e2
  rw [i2] at z4
  rw [i5] at e8
  rw [kd] at e1 HQ ⊢
  have i3' : (y.hi == 0) = false := by rw [beq_eq_false_iff_ne]; exact i3
  have HI2 := hid i2
  have HI3 := hid i3
  have HI4 := hid i4
  clear kp hqt i1 i2 i3 i4 i5 kd had hrl
  have n2 : (y.id != y.id) = false := by simp
  have n3 : (y.pr != y.pr) = false := by simp
  go_upto_region 39 with fail
  go_quiet (fail)
  go_upto_region 41 with fail
  obtain ⟨U1, hU1⟩ : ∃ U1, U.drewN nq = U1 := ⟨_, rfl⟩
  have hb1 : Below U.heap.size U U1 := by rw [← hU1]; exact bdrew _ _
  rw [hU1]
  clear hU1 e0 e1 e2 e3 e4 e5 e6 e7 e8 e9 e10 e11 e12 a0 a1 a2 a3 a4 a5 a6 a7 a8 a9 a10 a11 a12 z0 z1 z2 z3 z4 z5 z6 fz
  have K41 := hid (K4.out.on hb1)
  have KA1 := hid (row_on KA.out hb1)
  have KE1 := hid (row_on HS.out.ex hb1)
  have KP1 := hid (HS.out.kp.trans (Kp.of (fun _ => False) hb1) (fun _ _ h => h.elim))
  obtain ⟨g', off', cur', hp', hx1, hx2, z0, z1, z2, z3, z4, z5, z6, fz⟩ := K41.out.head
  injection hp' with hp'
  injection hp' with h1 h2
  subst h1
  subst h2
  have HB1 := hid hb1
  clear hb1 hx1 hx2
  obtain ⟨e0, e1, e2, e3, e4, e5, e6, e7, e8, e9, e10, e11, e12⟩ := ev_row KE1.out
  obtain ⟨a0, a1, a2, a3, a4, a5, a6, a7, a8, a9, a10, a11, a12⟩ := ev_row KA1.out
  have hE1 : E < U1.heap.size := row_lt KE1.out
  have hE2 : E ≠ U1.heap.size := Nat.ne_of_lt hE1
  have hA1 : A < U1.heap.size := row_lt KA1.out
  have hA2 : A ≠ U1.heap.size := Nat.ne_of_lt hA1
  by_cases hh : y.hi < y.pk
  · have hsh : y.shn = { y with vi := y.hi, hi := 0 } := by
      unfold Or.shn shw
      rw [if_pos (Or.inr hh)]
    have hq : e.qt = y.hi := by rw [HQT.out, hsh]
    rw [hq] at e9
    have n5 : (y.hi != y.hi) = false := by simp
    have HSH := hid hsh
    clear hsh hq
    go_upto_region 48 with fail
    obtain ⟨U2, hU2⟩ : ∃ U2, U1.alloc (.cells #[.int .u64 y.id, .int .u32 y.mb, .int .i64 y.ty, .int .i64 y.pr, .int .u64 y.hi, .int .u64 0, .int .u64 y.pk] 50) = U2 := ⟨_, rfl⟩
    have hb2 : Below U1.heap.size U1 U2 := by rw [← hU2]; exact ball _ _
    have hO : U2.heap[U1.heap.size]? = some (.cells (orow y.shn) 50 (0, 0)) := by
      rw [HSH.out, ← hU2]
      exact World.alloc_heap_new _ _
    obtain ⟨O, hOO⟩ : ∃ O, U1.heap.size = O := ⟨_, rfl⟩
    rw [hU2]
    rw [hOO] at hO ⊢
    have K42 := hid (K41.out.on hb2)
    have KA2 := hid (row_on KA1.out hb2)
    have KP2 := hid (KP1.out.trans (Kp.of (fun _ => False) hb2) (fun _ _ h => h.elim))
    have KO := hid hO
    clear hb2 hO hU2 hOO e0 e1 e2 e3 e4 e5 e6 e7 e8 e9 e10 e11 e12 a0 a1 a2 a3 a4 a5 a6 a7 a8 a9 a10 a11 a12 z0 z1 z2 z3 z4 z5 z6 fz hE1 hE2 hA1 hA2
    have HT := hid (show n - 1 = r.length from by have := HOL.out; omega)
    have h1n : (1 : Int) ≤ (n : Int) := by have := HOL.out; omega
    by_cases hc1 : c = 1
    · subst hc1
      have CBH := hid (fun (Z : World) (hZ : Below U2.heap.size U2 Z) => (show Calls Try.prog 19 #[.slice (some ⟨g, off, none⟩) (n - 1) 0, .agg (orow y.shn), .bool (a.sd == 2)] Z fun e w' => ∃ q d, e = .returned (.slice q n d) ∧ w'.ownsRow Z.heap.size 50 7 (.slice q n d) n (ors (inO (bhO (oth a.sd) y.pr r) y.shn r)) ∧ Below Z.heap.size Z w' from by
        have hsz : Osz Z (some ⟨g, off, none⟩) r := osz_on (osz_nil _ _ (List.eq_nil_of_length_eq_zero (by have := K42.out.le; simp only [List.length_cons] at this; omega))) hZ
        have := behindL_any (some ⟨g, off, none⟩) 0 r y.shn (a.sd == 2) (oth a.sd) Z (by rcases HAD.out with h | h <;> rw [h] <;> rfl) hsz HRL.out
        rw [show r.length + 1 = n from HOL.out.symm, show r.length = n - 1 from HT.out.symm] at this
        exact this))
      unfold orow at CBH
      rw [HSH.out] at CBH
      simp only at CBH
      have HSS := hid (fun (Z : World) (hZ : Below U2.heap.size U2 Z) => (show (fun Z => Z.cell? ⟨O, 0, none⟩ = some (.int .u64 y.id) ∧ Z.cell? ⟨O, 1, none⟩ = some (.int .u32 y.mb) ∧ Z.cell? ⟨O, 2, none⟩ = some (.int .i64 y.ty) ∧ Z.cell? ⟨O, 3, none⟩ = some (.int .i64 y.pr) ∧ Z.cell? ⟨O, 4, none⟩ = some (.int .u64 y.hi) ∧ Z.cell? ⟨O, 5, none⟩ = some (.int .u64 0) ∧ Z.cell? ⟨O, 6, none⟩ = some (.int .u64 y.pk) ∧ Z.cell? ⟨A, 6, none⟩ = some (.int .i64 a.sd)) Z from by
        have hr := row_on KO.out hZ
        rw [HSH.out] at hr
        have b0 := row_cell hr 0
        have b1 := row_cell hr 1
        have b2 := row_cell hr 2
        have b3 := row_cell hr 3
        have b4 := row_cell hr 4
        have b5 := row_cell hr 5
        have b6 := row_cell hr 6
        simp only [orow, List.getElem?_toArray, List.getElem?_cons_succ, List.getElem?_cons_zero] at b0 b1 b2 b3 b4 b5 b6
        obtain ⟨_, _, _, _, _, _, a6, _⟩ := ev_row (row_on KA2.out hZ)
        exact ⟨b0, b1, b2, b3, b4, b5, b6, a6⟩))
      refine wp_region_held_drew (S := (fun Z => Z.cell? ⟨O, 0, none⟩ = some (.int .u64 y.id) ∧ Z.cell? ⟨O, 1, none⟩ = some (.int .u32 y.mb) ∧ Z.cell? ⟨O, 2, none⟩ = some (.int .i64 y.ty) ∧ Z.cell? ⟨O, 3, none⟩ = some (.int .i64 y.pr) ∧ Z.cell? ⟨O, 4, none⟩ = some (.int .u64 y.hi) ∧ Z.cell? ⟨O, 5, none⟩ = some (.int .u64 0) ∧ Z.cell? ⟨O, 6, none⟩ = some (.int .u64 y.pk) ∧ Z.cell? ⟨A, 6, none⟩ = some (.int .i64 a.sd))) (by kernel_rfl) ?_ (fun hHeld => ?_)
      · (try dsimp only); (exact HSS.out _ (bdrew1 _))
      refine' wpAnyH_take (i := 0) (oi := _) (v := _) rfl (by kernel_rfl) (by kernel_rfl) (by kernel_rfl) (fun _ _ _ h => absurd (And.left h) (by intro h; cases h)) (Or.inl ⟨by kernel_rfl, ?hyq1⟩) (by assumption) ?restq1
      case hyq1 => (intro w hSw; (try dsimp only at hSw); go_simp; try (with_reducible rfl))
      try simp only [List.getElem_toArray, List.getElem_cons_succ, List.getElem_cons_zero, Act.put, List.setIfInBounds_toArray, List.set_cons_zero, List.set_cons_succ]
      refine' wpAnyH_take (i := 1) (oi := _) (v := _) rfl (by kernel_rfl) (by kernel_rfl) (by kernel_rfl) (fun _ _ _ h => absurd (And.left h) (by intro h; cases h)) (Or.inl ⟨by kernel_rfl, ?hyq2⟩) (by assumption) ?restq2
      case hyq2 => (intro w hSw; (try dsimp only at hSw); go_simp; try (with_reducible rfl))
      try simp only [List.getElem_toArray, List.getElem_cons_succ, List.getElem_cons_zero, Act.put, List.setIfInBounds_toArray, List.set_cons_zero, List.set_cons_succ]
      refine' wpAnyH_take (i := 2) (oi := _) (v := _) rfl (by kernel_rfl) (by kernel_rfl) (by kernel_rfl) (fun _ _ _ h => absurd (And.left h) (by intro h; cases h)) (Or.inl ⟨by kernel_rfl, ?hyq3⟩) (by assumption) ?restq3
      case hyq3 => (intro w hSw; (try dsimp only at hSw); go_simp; try (with_reducible rfl))
      try simp only [List.getElem_toArray, List.getElem_cons_succ, List.getElem_cons_zero, Act.put, List.setIfInBounds_toArray, List.set_cons_zero, List.set_cons_succ]
      refine' wpAnyH_take (i := 3) (oi := _) (v := _) rfl (by kernel_rfl) (by kernel_rfl) (by kernel_rfl) (fun _ _ _ h => absurd (And.left h) (by intro h; cases h)) (Or.inl ⟨by kernel_rfl, ?hyq4⟩) (by assumption) ?restq4
      case hyq4 => (intro w hSw; (try dsimp only at hSw); go_simp; try (with_reducible rfl))
      try simp only [List.getElem_toArray, List.getElem_cons_succ, List.getElem_cons_zero, Act.put, List.setIfInBounds_toArray, List.set_cons_zero, List.set_cons_succ]
      refine' wpAnyH_take (i := 4) (oi := _) (v := _) rfl (by kernel_rfl) (by kernel_rfl) (by kernel_rfl) (fun _ _ _ h => absurd (And.left h) (by intro h; cases h)) (Or.inl ⟨by kernel_rfl, ?hyq5⟩) (by assumption) ?restq5
      case hyq5 => (intro w hSw; (try dsimp only at hSw); go_simp; try (with_reducible rfl))
      try simp only [List.getElem_toArray, List.getElem_cons_succ, List.getElem_cons_zero, Act.put, List.setIfInBounds_toArray, List.set_cons_zero, List.set_cons_succ]
      refine' wpAnyH_take (i := 5) (oi := _) (v := _) rfl (by kernel_rfl) (by kernel_rfl) (by kernel_rfl) (fun _ _ _ h => absurd (And.left h) (by intro h; cases h)) (Or.inl ⟨by kernel_rfl, ?hyq6⟩) (by assumption) ?restq6
      case hyq6 => (intro w hSw; (try dsimp only at hSw); go_simp; try (with_reducible rfl))
      try simp only [List.getElem_toArray, List.getElem_cons_succ, List.getElem_cons_zero, Act.put, List.setIfInBounds_toArray, List.set_cons_zero, List.set_cons_succ]
      refine wpAnyH_ready (rs := [6]) (by kernel_rfl) (by simp) ?_
      refine AllReadyH.cons (o := _) rfl (fun K hK => ?_) AllReadyH.nil
      go_simp
      go_at_call 19; with_reducible refine (CBH.out _ (by first | exact bdrew1 _ | exact bdrew _ _)).mono ?_; rintro e5 w5 ⟨q5, d5, rfl, ho5, hb5⟩; have HO5 := hid ho5; have HB5 := hid (show Below U2.heap.size U2 w5 from btr (by first | exact bdrew1 _ | exact bdrew _ _) hb5); clear ho5 hb5
      (try go_wp2_with fail)
      refine hK.out _ _ ?_ (fun hHeld => ?_)
      · (try dsimp only); (exact HSS.out _ HB5.out)
      clear hK K
      try simp only [List.getElem_toArray, List.getElem_cons_succ, List.getElem_cons_zero, Act.put, List.setIfInBounds_toArray, List.set_cons_zero, List.set_cons_succ]
      refine' wpAnyH_take (i := 7) (oi := _) (v := _) rfl (by kernel_rfl) (by kernel_rfl) (by kernel_rfl) (fun _ _ _ h => absurd (And.left h) (by intro h; cases h)) (Or.inl ⟨by kernel_rfl, ?hyq7⟩) (by assumption) ?restq7
      case hyq7 => (intro w hSw; (try dsimp only at hSw); go_simp; try (with_reducible rfl))
      try simp only [List.getElem_toArray, List.getElem_cons_succ, List.getElem_cons_zero, Act.put, List.setIfInBounds_toArray, List.set_cons_zero, List.set_cons_succ]
      refine wpAnyH_done (by kernel_rfl) ?_ _
      (try go_wp2)
      rename_i vv hve
      injection hve with hve
      subst hve
      have hlen : n = (inO (bhO (oth a.sd) y.pr r) y.shn r).length := by
        rw [HOL.out]
        have := bhO_le (oth a.sd) y.pr r
        simp only [inO, List.length_append, List.length_cons, List.length_take, List.length_drop]
        omega
      rw [HSH.out] at hlen
      have h5 := HKP5.out
      rw [HSH.out] at h5
      have hsd := Sd.of5 HO5.out hlen (F := F) (fun gg hg => HS.out.fn gg (Nat.le_trans KP2.out.size hg))
      exact ⟨rfl, HQ.out left _ n _ _ _ _ _ _ _ _ _ _ _ _ _ _ _ _ _ _ _ _ _ _ _ _ _ _ _ _ _ _ _ _ _ _ _ _ _ _ _ _ _ _ _ _ _ _ _ _ _ _ _ _ _ _ _ _ _ _ _ _ _ _ _ _ _ _ _ _ _ _ _ _ _ _ _ _ _ _ _ _ _ _ _ _ _ _ _ _ _ _ _ _ _ _ _ _ _ _ _ _ _ _ _ _ _ _ _ _ _ _ _ _ _ _ _ _ _ _ _ _ _ _ _ _ _ _ _ _ _ _ _ _ _ _ _ _ _ _ _ _ _ _ _ _ _ _ _ _ _ _ _ _ _ _ _ _ _ _ _ _ _ _ _ _ _ _ _ _ _ _ _ _ _ _ _ _ _ _ _ _ _ _ _ _ _ _ _ _ _ _ _ _ _ _ _ _ _ _ _ _ _ _ _ _ _ _ _ _ _ _ _ _ _ _ _ _ _ _ _ _ _ _ _ _ _ _ _ _ _ _ _ _ _ _ _ _ _ _ _ _ _ _ _ _ _ _ _ _ _ _ _ _ _ _ _ _ _ _ _ _ _ _ _ _ _ _ _ (KP2.out.trans (Kp.of (fun _ => False) HB5.out) (fun _ _ h => h.elim)) (.inr ⟨a, _, hlen, HAD.out, row_on KA2.out HB5.out, hsd, h5⟩)⟩
    · have CBH := hid (fun (Z : World) (hZ : Below U2.heap.size U2 Z) => (show Calls Try.prog 19 #[.slice (some ⟨g, off + 7, none⟩) (n - 1) (c - 1), .agg (orow y.shn), .bool (a.sd == 2)] Z fun e w' => ∃ q d, e = .returned (.slice q n d) ∧ w'.ownsRow Z.heap.size 50 7 (.slice q n d) n (ors (inO (bhO (oth a.sd) y.pr r) y.shn r)) ∧ Below Z.heap.size Z w' from by
        have hsz : Osz Z (some ⟨g, off + 7, none⟩) r := osz_on ((K42.out.tail (fun _ => rfl)).osz) hZ
        have := behindL_any (some ⟨g, off + 7, none⟩) (c - 1) r y.shn (a.sd == 2) (oth a.sd) Z (by rcases HAD.out with h | h <;> rw [h] <;> rfl) hsz HRL.out
        rw [show r.length + 1 = n from HOL.out.symm, show r.length = n - 1 from HT.out.symm] at this
        exact this))
      unfold orow at CBH
      rw [HSH.out] at CBH
      simp only at CBH
      have HSS := hid (fun (Z : World) (hZ : Below U2.heap.size U2 Z) => (show (fun Z => Z.cell? ⟨O, 0, none⟩ = some (.int .u64 y.id) ∧ Z.cell? ⟨O, 1, none⟩ = some (.int .u32 y.mb) ∧ Z.cell? ⟨O, 2, none⟩ = some (.int .i64 y.ty) ∧ Z.cell? ⟨O, 3, none⟩ = some (.int .i64 y.pr) ∧ Z.cell? ⟨O, 4, none⟩ = some (.int .u64 y.hi) ∧ Z.cell? ⟨O, 5, none⟩ = some (.int .u64 0) ∧ Z.cell? ⟨O, 6, none⟩ = some (.int .u64 y.pk) ∧ Z.cell? ⟨A, 6, none⟩ = some (.int .i64 a.sd)) Z from by
        have hr := row_on KO.out hZ
        rw [HSH.out] at hr
        have b0 := row_cell hr 0
        have b1 := row_cell hr 1
        have b2 := row_cell hr 2
        have b3 := row_cell hr 3
        have b4 := row_cell hr 4
        have b5 := row_cell hr 5
        have b6 := row_cell hr 6
        simp only [orow, List.getElem?_toArray, List.getElem?_cons_succ, List.getElem?_cons_zero] at b0 b1 b2 b3 b4 b5 b6
        obtain ⟨_, _, _, _, _, _, a6, _⟩ := ev_row (row_on KA2.out hZ)
        exact ⟨b0, b1, b2, b3, b4, b5, b6, a6⟩))
      refine wp_region_held_drew (S := (fun Z => Z.cell? ⟨O, 0, none⟩ = some (.int .u64 y.id) ∧ Z.cell? ⟨O, 1, none⟩ = some (.int .u32 y.mb) ∧ Z.cell? ⟨O, 2, none⟩ = some (.int .i64 y.ty) ∧ Z.cell? ⟨O, 3, none⟩ = some (.int .i64 y.pr) ∧ Z.cell? ⟨O, 4, none⟩ = some (.int .u64 y.hi) ∧ Z.cell? ⟨O, 5, none⟩ = some (.int .u64 0) ∧ Z.cell? ⟨O, 6, none⟩ = some (.int .u64 y.pk) ∧ Z.cell? ⟨A, 6, none⟩ = some (.int .i64 a.sd))) (by kernel_rfl) ?_ (fun hHeld => ?_)
      · (try dsimp only); (exact HSS.out _ (bdrew1 _))
      refine' wpAnyH_take (i := 0) (oi := _) (v := _) rfl (by kernel_rfl) (by kernel_rfl) (by kernel_rfl) (fun _ _ _ h => absurd (And.left h) (by intro h; cases h)) (Or.inl ⟨by kernel_rfl, ?hyq8⟩) (by assumption) ?restq8
      case hyq8 => (intro w hSw; (try dsimp only at hSw); go_simp; try (with_reducible rfl))
      try simp only [List.getElem_toArray, List.getElem_cons_succ, List.getElem_cons_zero, Act.put, List.setIfInBounds_toArray, List.set_cons_zero, List.set_cons_succ]
      refine' wpAnyH_take (i := 1) (oi := _) (v := _) rfl (by kernel_rfl) (by kernel_rfl) (by kernel_rfl) (fun _ _ _ h => absurd (And.left h) (by intro h; cases h)) (Or.inl ⟨by kernel_rfl, ?hyq9⟩) (by assumption) ?restq9
      case hyq9 => (intro w hSw; (try dsimp only at hSw); go_simp; try (with_reducible rfl))
      try simp only [List.getElem_toArray, List.getElem_cons_succ, List.getElem_cons_zero, Act.put, List.setIfInBounds_toArray, List.set_cons_zero, List.set_cons_succ]
      refine' wpAnyH_take (i := 2) (oi := _) (v := _) rfl (by kernel_rfl) (by kernel_rfl) (by kernel_rfl) (fun _ _ _ h => absurd (And.left h) (by intro h; cases h)) (Or.inl ⟨by kernel_rfl, ?hyq10⟩) (by assumption) ?restq10
      case hyq10 => (intro w hSw; (try dsimp only at hSw); go_simp; try (with_reducible rfl))
      try simp only [List.getElem_toArray, List.getElem_cons_succ, List.getElem_cons_zero, Act.put, List.setIfInBounds_toArray, List.set_cons_zero, List.set_cons_succ]
      refine' wpAnyH_take (i := 3) (oi := _) (v := _) rfl (by kernel_rfl) (by kernel_rfl) (by kernel_rfl) (fun _ _ _ h => absurd (And.left h) (by intro h; cases h)) (Or.inl ⟨by kernel_rfl, ?hyq11⟩) (by assumption) ?restq11
      case hyq11 => (intro w hSw; (try dsimp only at hSw); go_simp; try (with_reducible rfl))
      try simp only [List.getElem_toArray, List.getElem_cons_succ, List.getElem_cons_zero, Act.put, List.setIfInBounds_toArray, List.set_cons_zero, List.set_cons_succ]
      refine' wpAnyH_take (i := 4) (oi := _) (v := _) rfl (by kernel_rfl) (by kernel_rfl) (by kernel_rfl) (fun _ _ _ h => absurd (And.left h) (by intro h; cases h)) (Or.inl ⟨by kernel_rfl, ?hyq12⟩) (by assumption) ?restq12
      case hyq12 => (intro w hSw; (try dsimp only at hSw); go_simp; try (with_reducible rfl))
      try simp only [List.getElem_toArray, List.getElem_cons_succ, List.getElem_cons_zero, Act.put, List.setIfInBounds_toArray, List.set_cons_zero, List.set_cons_succ]
      refine' wpAnyH_take (i := 5) (oi := _) (v := _) rfl (by kernel_rfl) (by kernel_rfl) (by kernel_rfl) (fun _ _ _ h => absurd (And.left h) (by intro h; cases h)) (Or.inl ⟨by kernel_rfl, ?hyq13⟩) (by assumption) ?restq13
      case hyq13 => (intro w hSw; (try dsimp only at hSw); go_simp; try (with_reducible rfl))
      try simp only [List.getElem_toArray, List.getElem_cons_succ, List.getElem_cons_zero, Act.put, List.setIfInBounds_toArray, List.set_cons_zero, List.set_cons_succ]
      refine wpAnyH_ready (rs := [6]) (by kernel_rfl) (by simp) ?_
      refine AllReadyH.cons (o := _) rfl (fun K hK => ?_) AllReadyH.nil
      go_simp
      go_at_call 19; with_reducible refine (CBH.out _ (by first | exact bdrew1 _ | exact bdrew _ _)).mono ?_; rintro e5 w5 ⟨q5, d5, rfl, ho5, hb5⟩; have HO5 := hid ho5; have HB5 := hid (show Below U2.heap.size U2 w5 from btr (by first | exact bdrew1 _ | exact bdrew _ _) hb5); clear ho5 hb5
      (try go_wp2_with fail)
      refine hK.out _ _ ?_ (fun hHeld => ?_)
      · (try dsimp only); (exact HSS.out _ HB5.out)
      clear hK K
      try simp only [List.getElem_toArray, List.getElem_cons_succ, List.getElem_cons_zero, Act.put, List.setIfInBounds_toArray, List.set_cons_zero, List.set_cons_succ]
      refine' wpAnyH_take (i := 7) (oi := _) (v := _) rfl (by kernel_rfl) (by kernel_rfl) (by kernel_rfl) (fun _ _ _ h => absurd (And.left h) (by intro h; cases h)) (Or.inl ⟨by kernel_rfl, ?hyq14⟩) (by assumption) ?restq14
      case hyq14 => (intro w hSw; (try dsimp only at hSw); go_simp; try (with_reducible rfl))
      try simp only [List.getElem_toArray, List.getElem_cons_succ, List.getElem_cons_zero, Act.put, List.setIfInBounds_toArray, List.set_cons_zero, List.set_cons_succ]
      refine wpAnyH_done (by kernel_rfl) ?_ _
      (try go_wp2)
      rename_i vv hve
      injection hve with hve
      subst hve
      have hlen : n = (inO (bhO (oth a.sd) y.pr r) y.shn r).length := by
        rw [HOL.out]
        have := bhO_le (oth a.sd) y.pr r
        simp only [inO, List.length_append, List.length_cons, List.length_take, List.length_drop]
        omega
      rw [HSH.out] at hlen
      have h5 := HKP5.out
      rw [HSH.out] at h5
      have hsd := Sd.of5 HO5.out hlen (F := F) (fun gg hg => HS.out.fn gg (Nat.le_trans KP2.out.size hg))
      exact ⟨rfl, HQ.out left _ n _ _ _ _ _ _ _ _ _ _ _ _ _ _ _ _ _ _ _ _ _ _ _ _ _ _ _ _ _ _ _ _ _ _ _ _ _ _ _ _ _ _ _ _ _ _ _ _ _ _ _ _ _ _ _ _ _ _ _ _ _ _ _ _ _ _ _ _ _ _ _ _ _ _ _ _ _ _ _ _ _ _ _ _ _ _ _ _ _ _ _ _ _ _ _ _ _ _ _ _ _ _ _ _ _ _ _ _ _ _ _ _ _ _ _ _ _ _ _ _ _ _ _ _ _ _ _ _ _ _ _ _ _ _ _ _ _ _ _ _ _ _ _ _ _ _ _ _ _ _ _ _ _ _ _ _ _ _ _ _ _ _ _ _ _ _ _ _ _ _ _ _ _ _ _ _ _ _ _ _ _ _ _ _ _ _ _ _ _ _ _ _ _ _ _ _ _ _ _ _ _ _ _ _ _ _ _ _ _ _ _ _ _ _ _ _ _ _ _ _ _ _ _ _ _ _ _ _ _ _ _ _ _ _ _ _ _ _ _ _ _ _ _ _ _ _ _ _ _ _ _ _ _ _ _ _ _ _ _ _ _ _ _ _ _ _ _ (KP2.out.trans (Kp.of (fun _ => False) HB5.out) (fun _ _ h => h.elim)) (.inr ⟨a, _, hlen, HAD.out, row_on KA2.out HB5.out, hsd, h5⟩)⟩
  · have hsh : y.shn = { y with vi := y.pk, hi := y.hi - y.pk } := by
      unfold Or.shn shw
      rw [if_neg (by rintro (h | h); exact HI4.out h; exact hh h)]
    have hq : e.qt = y.pk := by rw [HQT.out, hsh]
    rw [hq] at e9
    have n5 : (y.pk != y.pk) = false := by simp
    have hw : IntKind.u64.wrap (y.hi - y.pk) = y.hi - y.pk := by
      obtain ⟨b1, b2, b3, b4⟩ := HOB.out
      rw [IntKind.wrap_u64]
      omega
    have HSH := hid hsh
    clear hsh hq
    go_upto_region 48 with fail
    obtain ⟨U2, hU2⟩ : ∃ U2, U1.alloc (.cells #[.int .u64 y.id, .int .u32 y.mb, .int .i64 y.ty, .int .i64 y.pr, .int .u64 y.pk, .int .u64 (y.hi - y.pk), .int .u64 y.pk] 50) = U2 := ⟨_, rfl⟩
    have hb2 : Below U1.heap.size U1 U2 := by rw [← hU2]; exact ball _ _
    have hO : U2.heap[U1.heap.size]? = some (.cells (orow y.shn) 50 (0, 0)) := by
      rw [HSH.out, ← hU2]
      exact World.alloc_heap_new _ _
    obtain ⟨O, hOO⟩ : ∃ O, U1.heap.size = O := ⟨_, rfl⟩
    rw [hU2]
    rw [hOO] at hO ⊢
    have K42 := hid (K41.out.on hb2)
    have KA2 := hid (row_on KA1.out hb2)
    have KP2 := hid (KP1.out.trans (Kp.of (fun _ => False) hb2) (fun _ _ h => h.elim))
    have KO := hid hO
    clear hb2 hO hU2 hOO e0 e1 e2 e3 e4 e5 e6 e7 e8 e9 e10 e11 e12 a0 a1 a2 a3 a4 a5 a6 a7 a8 a9 a10 a11 a12 z0 z1 z2 z3 z4 z5 z6 fz hE1 hE2 hA1 hA2
    have HT := hid (show n - 1 = r.length from by have := HOL.out; omega)
    have h1n : (1 : Int) ≤ (n : Int) := by have := HOL.out; omega
    by_cases hc1 : c = 1
    · subst hc1
      have CBH := hid (fun (Z : World) (hZ : Below U2.heap.size U2 Z) => (show Calls Try.prog 19 #[.slice (some ⟨g, off, none⟩) (n - 1) 0, .agg (orow y.shn), .bool (a.sd == 2)] Z fun e w' => ∃ q d, e = .returned (.slice q n d) ∧ w'.ownsRow Z.heap.size 50 7 (.slice q n d) n (ors (inO (bhO (oth a.sd) y.pr r) y.shn r)) ∧ Below Z.heap.size Z w' from by
        have hsz : Osz Z (some ⟨g, off, none⟩) r := osz_on (osz_nil _ _ (List.eq_nil_of_length_eq_zero (by have := K42.out.le; simp only [List.length_cons] at this; omega))) hZ
        have := behindL_any (some ⟨g, off, none⟩) 0 r y.shn (a.sd == 2) (oth a.sd) Z (by rcases HAD.out with h | h <;> rw [h] <;> rfl) hsz HRL.out
        rw [show r.length + 1 = n from HOL.out.symm, show r.length = n - 1 from HT.out.symm] at this
        exact this))
      unfold orow at CBH
      rw [HSH.out] at CBH
      simp only at CBH
      have HSS := hid (fun (Z : World) (hZ : Below U2.heap.size U2 Z) => (show (fun Z => Z.cell? ⟨O, 0, none⟩ = some (.int .u64 y.id) ∧ Z.cell? ⟨O, 1, none⟩ = some (.int .u32 y.mb) ∧ Z.cell? ⟨O, 2, none⟩ = some (.int .i64 y.ty) ∧ Z.cell? ⟨O, 3, none⟩ = some (.int .i64 y.pr) ∧ Z.cell? ⟨O, 4, none⟩ = some (.int .u64 y.pk) ∧ Z.cell? ⟨O, 5, none⟩ = some (.int .u64 (y.hi - y.pk)) ∧ Z.cell? ⟨O, 6, none⟩ = some (.int .u64 y.pk) ∧ Z.cell? ⟨A, 6, none⟩ = some (.int .i64 a.sd)) Z from by
        have hr := row_on KO.out hZ
        rw [HSH.out] at hr
        have b0 := row_cell hr 0
        have b1 := row_cell hr 1
        have b2 := row_cell hr 2
        have b3 := row_cell hr 3
        have b4 := row_cell hr 4
        have b5 := row_cell hr 5
        have b6 := row_cell hr 6
        simp only [orow, List.getElem?_toArray, List.getElem?_cons_succ, List.getElem?_cons_zero] at b0 b1 b2 b3 b4 b5 b6
        obtain ⟨_, _, _, _, _, _, a6, _⟩ := ev_row (row_on KA2.out hZ)
        exact ⟨b0, b1, b2, b3, b4, b5, b6, a6⟩))
      refine wp_region_held_drew (S := (fun Z => Z.cell? ⟨O, 0, none⟩ = some (.int .u64 y.id) ∧ Z.cell? ⟨O, 1, none⟩ = some (.int .u32 y.mb) ∧ Z.cell? ⟨O, 2, none⟩ = some (.int .i64 y.ty) ∧ Z.cell? ⟨O, 3, none⟩ = some (.int .i64 y.pr) ∧ Z.cell? ⟨O, 4, none⟩ = some (.int .u64 y.pk) ∧ Z.cell? ⟨O, 5, none⟩ = some (.int .u64 (y.hi - y.pk)) ∧ Z.cell? ⟨O, 6, none⟩ = some (.int .u64 y.pk) ∧ Z.cell? ⟨A, 6, none⟩ = some (.int .i64 a.sd))) (by kernel_rfl) ?_ (fun hHeld => ?_)
      · (try dsimp only); (exact HSS.out _ (bdrew1 _))
      refine' wpAnyH_take (i := 0) (oi := _) (v := _) rfl (by kernel_rfl) (by kernel_rfl) (by kernel_rfl) (fun _ _ _ h => absurd (And.left h) (by intro h; cases h)) (Or.inl ⟨by kernel_rfl, ?hyr1⟩) (by assumption) ?restr1
      case hyr1 => (intro w hSw; (try dsimp only at hSw); go_simp; try (with_reducible rfl))
      try simp only [List.getElem_toArray, List.getElem_cons_succ, List.getElem_cons_zero, Act.put, List.setIfInBounds_toArray, List.set_cons_zero, List.set_cons_succ]
      refine' wpAnyH_take (i := 1) (oi := _) (v := _) rfl (by kernel_rfl) (by kernel_rfl) (by kernel_rfl) (fun _ _ _ h => absurd (And.left h) (by intro h; cases h)) (Or.inl ⟨by kernel_rfl, ?hyr2⟩) (by assumption) ?restr2
      case hyr2 => (intro w hSw; (try dsimp only at hSw); go_simp; try (with_reducible rfl))
      try simp only [List.getElem_toArray, List.getElem_cons_succ, List.getElem_cons_zero, Act.put, List.setIfInBounds_toArray, List.set_cons_zero, List.set_cons_succ]
      refine' wpAnyH_take (i := 2) (oi := _) (v := _) rfl (by kernel_rfl) (by kernel_rfl) (by kernel_rfl) (fun _ _ _ h => absurd (And.left h) (by intro h; cases h)) (Or.inl ⟨by kernel_rfl, ?hyr3⟩) (by assumption) ?restr3
      case hyr3 => (intro w hSw; (try dsimp only at hSw); go_simp; try (with_reducible rfl))
      try simp only [List.getElem_toArray, List.getElem_cons_succ, List.getElem_cons_zero, Act.put, List.setIfInBounds_toArray, List.set_cons_zero, List.set_cons_succ]
      refine' wpAnyH_take (i := 3) (oi := _) (v := _) rfl (by kernel_rfl) (by kernel_rfl) (by kernel_rfl) (fun _ _ _ h => absurd (And.left h) (by intro h; cases h)) (Or.inl ⟨by kernel_rfl, ?hyr4⟩) (by assumption) ?restr4
      case hyr4 => (intro w hSw; (try dsimp only at hSw); go_simp; try (with_reducible rfl))
      try simp only [List.getElem_toArray, List.getElem_cons_succ, List.getElem_cons_zero, Act.put, List.setIfInBounds_toArray, List.set_cons_zero, List.set_cons_succ]
      refine' wpAnyH_take (i := 4) (oi := _) (v := _) rfl (by kernel_rfl) (by kernel_rfl) (by kernel_rfl) (fun _ _ _ h => absurd (And.left h) (by intro h; cases h)) (Or.inl ⟨by kernel_rfl, ?hyr5⟩) (by assumption) ?restr5
      case hyr5 => (intro w hSw; (try dsimp only at hSw); go_simp; try (with_reducible rfl))
      try simp only [List.getElem_toArray, List.getElem_cons_succ, List.getElem_cons_zero, Act.put, List.setIfInBounds_toArray, List.set_cons_zero, List.set_cons_succ]
      refine' wpAnyH_take (i := 5) (oi := _) (v := _) rfl (by kernel_rfl) (by kernel_rfl) (by kernel_rfl) (fun _ _ _ h => absurd (And.left h) (by intro h; cases h)) (Or.inl ⟨by kernel_rfl, ?hyr6⟩) (by assumption) ?restr6
      case hyr6 => (intro w hSw; (try dsimp only at hSw); go_simp; try (with_reducible rfl))
      try simp only [List.getElem_toArray, List.getElem_cons_succ, List.getElem_cons_zero, Act.put, List.setIfInBounds_toArray, List.set_cons_zero, List.set_cons_succ]
      refine wpAnyH_ready (rs := [6]) (by kernel_rfl) (by simp) ?_
      refine AllReadyH.cons (o := _) rfl (fun K hK => ?_) AllReadyH.nil
      go_simp
      go_at_call 19; with_reducible refine (CBH.out _ (by first | exact bdrew1 _ | exact bdrew _ _)).mono ?_; rintro e5 w5 ⟨q5, d5, rfl, ho5, hb5⟩; have HO5 := hid ho5; have HB5 := hid (show Below U2.heap.size U2 w5 from btr (by first | exact bdrew1 _ | exact bdrew _ _) hb5); clear ho5 hb5
      (try go_wp2_with fail)
      refine hK.out _ _ ?_ (fun hHeld => ?_)
      · (try dsimp only); (exact HSS.out _ HB5.out)
      clear hK K
      try simp only [List.getElem_toArray, List.getElem_cons_succ, List.getElem_cons_zero, Act.put, List.setIfInBounds_toArray, List.set_cons_zero, List.set_cons_succ]
      refine' wpAnyH_take (i := 7) (oi := _) (v := _) rfl (by kernel_rfl) (by kernel_rfl) (by kernel_rfl) (fun _ _ _ h => absurd (And.left h) (by intro h; cases h)) (Or.inl ⟨by kernel_rfl, ?hyr7⟩) (by assumption) ?restr7
      case hyr7 => (intro w hSw; (try dsimp only at hSw); go_simp; try (with_reducible rfl))
      try simp only [List.getElem_toArray, List.getElem_cons_succ, List.getElem_cons_zero, Act.put, List.setIfInBounds_toArray, List.set_cons_zero, List.set_cons_succ]
      refine wpAnyH_done (by kernel_rfl) ?_ _
      (try go_wp2)
      rename_i vv hve
      injection hve with hve
      subst hve
      have hlen : n = (inO (bhO (oth a.sd) y.pr r) y.shn r).length := by
        rw [HOL.out]
        have := bhO_le (oth a.sd) y.pr r
        simp only [inO, List.length_append, List.length_cons, List.length_take, List.length_drop]
        omega
      rw [HSH.out] at hlen
      have h5 := HKP5.out
      rw [HSH.out] at h5
      have hsd := Sd.of5 HO5.out hlen (F := F) (fun gg hg => HS.out.fn gg (Nat.le_trans KP2.out.size hg))
      exact ⟨rfl, HQ.out left _ n _ _ _ _ _ _ _ _ _ _ _ _ _ _ _ _ _ _ _ _ _ _ _ _ _ _ _ _ _ _ _ _ _ _ _ _ _ _ _ _ _ _ _ _ _ _ _ _ _ _ _ _ _ _ _ _ _ _ _ _ _ _ _ _ _ _ _ _ _ _ _ _ _ _ _ _ _ _ _ _ _ _ _ _ _ _ _ _ _ _ _ _ _ _ _ _ _ _ _ _ _ _ _ _ _ _ _ _ _ _ _ _ _ _ _ _ _ _ _ _ _ _ _ _ _ _ _ _ _ _ _ _ _ _ _ _ _ _ _ _ _ _ _ _ _ _ _ _ _ _ _ _ _ _ _ _ _ _ _ _ _ _ _ _ _ _ _ _ _ _ _ _ _ _ _ _ _ _ _ _ _ _ _ _ _ _ _ _ _ _ _ _ _ _ _ _ _ _ _ _ _ _ _ _ _ _ _ _ _ _ _ _ _ _ _ _ _ _ _ _ _ _ _ _ _ _ _ _ _ _ _ _ _ _ _ _ _ _ _ _ _ _ _ _ _ _ _ _ _ _ _ _ _ _ _ _ _ _ _ _ _ _ _ _ _ _ _ (KP2.out.trans (Kp.of (fun _ => False) HB5.out) (fun _ _ h => h.elim)) (.inr ⟨a, _, hlen, HAD.out, row_on KA2.out HB5.out, hsd, h5⟩)⟩
    · have CBH := hid (fun (Z : World) (hZ : Below U2.heap.size U2 Z) => (show Calls Try.prog 19 #[.slice (some ⟨g, off + 7, none⟩) (n - 1) (c - 1), .agg (orow y.shn), .bool (a.sd == 2)] Z fun e w' => ∃ q d, e = .returned (.slice q n d) ∧ w'.ownsRow Z.heap.size 50 7 (.slice q n d) n (ors (inO (bhO (oth a.sd) y.pr r) y.shn r)) ∧ Below Z.heap.size Z w' from by
        have hsz : Osz Z (some ⟨g, off + 7, none⟩) r := osz_on ((K42.out.tail (fun _ => rfl)).osz) hZ
        have := behindL_any (some ⟨g, off + 7, none⟩) (c - 1) r y.shn (a.sd == 2) (oth a.sd) Z (by rcases HAD.out with h | h <;> rw [h] <;> rfl) hsz HRL.out
        rw [show r.length + 1 = n from HOL.out.symm, show r.length = n - 1 from HT.out.symm] at this
        exact this))
      unfold orow at CBH
      rw [HSH.out] at CBH
      simp only at CBH
      have HSS := hid (fun (Z : World) (hZ : Below U2.heap.size U2 Z) => (show (fun Z => Z.cell? ⟨O, 0, none⟩ = some (.int .u64 y.id) ∧ Z.cell? ⟨O, 1, none⟩ = some (.int .u32 y.mb) ∧ Z.cell? ⟨O, 2, none⟩ = some (.int .i64 y.ty) ∧ Z.cell? ⟨O, 3, none⟩ = some (.int .i64 y.pr) ∧ Z.cell? ⟨O, 4, none⟩ = some (.int .u64 y.pk) ∧ Z.cell? ⟨O, 5, none⟩ = some (.int .u64 (y.hi - y.pk)) ∧ Z.cell? ⟨O, 6, none⟩ = some (.int .u64 y.pk) ∧ Z.cell? ⟨A, 6, none⟩ = some (.int .i64 a.sd)) Z from by
        have hr := row_on KO.out hZ
        rw [HSH.out] at hr
        have b0 := row_cell hr 0
        have b1 := row_cell hr 1
        have b2 := row_cell hr 2
        have b3 := row_cell hr 3
        have b4 := row_cell hr 4
        have b5 := row_cell hr 5
        have b6 := row_cell hr 6
        simp only [orow, List.getElem?_toArray, List.getElem?_cons_succ, List.getElem?_cons_zero] at b0 b1 b2 b3 b4 b5 b6
        obtain ⟨_, _, _, _, _, _, a6, _⟩ := ev_row (row_on KA2.out hZ)
        exact ⟨b0, b1, b2, b3, b4, b5, b6, a6⟩))
      refine wp_region_held_drew (S := (fun Z => Z.cell? ⟨O, 0, none⟩ = some (.int .u64 y.id) ∧ Z.cell? ⟨O, 1, none⟩ = some (.int .u32 y.mb) ∧ Z.cell? ⟨O, 2, none⟩ = some (.int .i64 y.ty) ∧ Z.cell? ⟨O, 3, none⟩ = some (.int .i64 y.pr) ∧ Z.cell? ⟨O, 4, none⟩ = some (.int .u64 y.pk) ∧ Z.cell? ⟨O, 5, none⟩ = some (.int .u64 (y.hi - y.pk)) ∧ Z.cell? ⟨O, 6, none⟩ = some (.int .u64 y.pk) ∧ Z.cell? ⟨A, 6, none⟩ = some (.int .i64 a.sd))) (by kernel_rfl) ?_ (fun hHeld => ?_)
      · (try dsimp only); (exact HSS.out _ (bdrew1 _))
      refine' wpAnyH_take (i := 0) (oi := _) (v := _) rfl (by kernel_rfl) (by kernel_rfl) (by kernel_rfl) (fun _ _ _ h => absurd (And.left h) (by intro h; cases h)) (Or.inl ⟨by kernel_rfl, ?hyr8⟩) (by assumption) ?restr8
      case hyr8 => (intro w hSw; (try dsimp only at hSw); go_simp; try (with_reducible rfl))
      try simp only [List.getElem_toArray, List.getElem_cons_succ, List.getElem_cons_zero, Act.put, List.setIfInBounds_toArray, List.set_cons_zero, List.set_cons_succ]
      refine' wpAnyH_take (i := 1) (oi := _) (v := _) rfl (by kernel_rfl) (by kernel_rfl) (by kernel_rfl) (fun _ _ _ h => absurd (And.left h) (by intro h; cases h)) (Or.inl ⟨by kernel_rfl, ?hyr9⟩) (by assumption) ?restr9
      case hyr9 => (intro w hSw; (try dsimp only at hSw); go_simp; try (with_reducible rfl))
      try simp only [List.getElem_toArray, List.getElem_cons_succ, List.getElem_cons_zero, Act.put, List.setIfInBounds_toArray, List.set_cons_zero, List.set_cons_succ]
      refine' wpAnyH_take (i := 2) (oi := _) (v := _) rfl (by kernel_rfl) (by kernel_rfl) (by kernel_rfl) (fun _ _ _ h => absurd (And.left h) (by intro h; cases h)) (Or.inl ⟨by kernel_rfl, ?hyr10⟩) (by assumption) ?restr10
      case hyr10 => (intro w hSw; (try dsimp only at hSw); go_simp; try (with_reducible rfl))
      try simp only [List.getElem_toArray, List.getElem_cons_succ, List.getElem_cons_zero, Act.put, List.setIfInBounds_toArray, List.set_cons_zero, List.set_cons_succ]
      refine' wpAnyH_take (i := 3) (oi := _) (v := _) rfl (by kernel_rfl) (by kernel_rfl) (by kernel_rfl) (fun _ _ _ h => absurd (And.left h) (by intro h; cases h)) (Or.inl ⟨by kernel_rfl, ?hyr11⟩) (by assumption) ?restr11
      case hyr11 => (intro w hSw; (try dsimp only at hSw); go_simp; try (with_reducible rfl))
      try simp only [List.getElem_toArray, List.getElem_cons_succ, List.getElem_cons_zero, Act.put, List.setIfInBounds_toArray, List.set_cons_zero, List.set_cons_succ]
      refine' wpAnyH_take (i := 4) (oi := _) (v := _) rfl (by kernel_rfl) (by kernel_rfl) (by kernel_rfl) (fun _ _ _ h => absurd (And.left h) (by intro h; cases h)) (Or.inl ⟨by kernel_rfl, ?hyr12⟩) (by assumption) ?restr12
      case hyr12 => (intro w hSw; (try dsimp only at hSw); go_simp; try (with_reducible rfl))
      try simp only [List.getElem_toArray, List.getElem_cons_succ, List.getElem_cons_zero, Act.put, List.setIfInBounds_toArray, List.set_cons_zero, List.set_cons_succ]
      refine' wpAnyH_take (i := 5) (oi := _) (v := _) rfl (by kernel_rfl) (by kernel_rfl) (by kernel_rfl) (fun _ _ _ h => absurd (And.left h) (by intro h; cases h)) (Or.inl ⟨by kernel_rfl, ?hyr13⟩) (by assumption) ?restr13
      case hyr13 => (intro w hSw; (try dsimp only at hSw); go_simp; try (with_reducible rfl))
      try simp only [List.getElem_toArray, List.getElem_cons_succ, List.getElem_cons_zero, Act.put, List.setIfInBounds_toArray, List.set_cons_zero, List.set_cons_succ]
      refine wpAnyH_ready (rs := [6]) (by kernel_rfl) (by simp) ?_
      refine AllReadyH.cons (o := _) rfl (fun K hK => ?_) AllReadyH.nil
      go_simp
      go_at_call 19; with_reducible refine (CBH.out _ (by first | exact bdrew1 _ | exact bdrew _ _)).mono ?_; rintro e5 w5 ⟨q5, d5, rfl, ho5, hb5⟩; have HO5 := hid ho5; have HB5 := hid (show Below U2.heap.size U2 w5 from btr (by first | exact bdrew1 _ | exact bdrew _ _) hb5); clear ho5 hb5
      (try go_wp2_with fail)
      refine hK.out _ _ ?_ (fun hHeld => ?_)
      · (try dsimp only); (exact HSS.out _ HB5.out)
      clear hK K
      try simp only [List.getElem_toArray, List.getElem_cons_succ, List.getElem_cons_zero, Act.put, List.setIfInBounds_toArray, List.set_cons_zero, List.set_cons_succ]
      refine' wpAnyH_take (i := 7) (oi := _) (v := _) rfl (by kernel_rfl) (by kernel_rfl) (by kernel_rfl) (fun _ _ _ h => absurd (And.left h) (by intro h; cases h)) (Or.inl ⟨by kernel_rfl, ?hyr14⟩) (by assumption) ?restr14
      case hyr14 => (intro w hSw; (try dsimp only at hSw); go_simp; try (with_reducible rfl))
      try simp only [List.getElem_toArray, List.getElem_cons_succ, List.getElem_cons_zero, Act.put, List.setIfInBounds_toArray, List.set_cons_zero, List.set_cons_succ]
      refine wpAnyH_done (by kernel_rfl) ?_ _
      (try go_wp2)
      rename_i vv hve
      injection hve with hve
      subst hve
      have hlen : n = (inO (bhO (oth a.sd) y.pr r) y.shn r).length := by
        rw [HOL.out]
        have := bhO_le (oth a.sd) y.pr r
        simp only [inO, List.length_append, List.length_cons, List.length_take, List.length_drop]
        omega
      rw [HSH.out] at hlen
      have h5 := HKP5.out
      rw [HSH.out] at h5
      have hsd := Sd.of5 HO5.out hlen (F := F) (fun gg hg => HS.out.fn gg (Nat.le_trans KP2.out.size hg))
      exact ⟨rfl, HQ.out left _ n _ _ _ _ _ _ _ _ _ _ _ _ _ _ _ _ _ _ _ _ _ _ _ _ _ _ _ _ _ _ _ _ _ _ _ _ _ _ _ _ _ _ _ _ _ _ _ _ _ _ _ _ _ _ _ _ _ _ _ _ _ _ _ _ _ _ _ _ _ _ _ _ _ _ _ _ _ _ _ _ _ _ _ _ _ _ _ _ _ _ _ _ _ _ _ _ _ _ _ _ _ _ _ _ _ _ _ _ _ _ _ _ _ _ _ _ _ _ _ _ _ _ _ _ _ _ _ _ _ _ _ _ _ _ _ _ _ _ _ _ _ _ _ _ _ _ _ _ _ _ _ _ _ _ _ _ _ _ _ _ _ _ _ _ _ _ _ _ _ _ _ _ _ _ _ _ _ _ _ _ _ _ _ _ _ _ _ _ _ _ _ _ _ _ _ _ _ _ _ _ _ _ _ _ _ _ _ _ _ _ _ _ _ _ _ _ _ _ _ _ _ _ _ _ _ _ _ _ _ _ _ _ _ _ _ _ _ _ _ _ _ _ _ _ _ _ _ _ _ _ _ _ _ _ _ _ _ _ _ _ _ _ _ _ _ _ _ (KP2.out.trans (Kp.of (fun _ => False) HB5.out) (fun _ _ h => h.elim)) (.inr ⟨a, _, hlen, HAD.out, row_on KA2.out HB5.out, hsd, h5⟩)⟩
end Go.Proofs.Ytalgndgoedlpoaa
