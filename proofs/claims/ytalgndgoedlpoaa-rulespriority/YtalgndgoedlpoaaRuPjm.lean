/-
  The law takes a trade. Written by mksw.py.
-/
import Derived.Test.YtalgndgoedlpoaaRuPh
namespace Go.Proofs.Ytalgndgoedlpoaa
open Go.RowKit Go.Deep Go.Shelf
set_option linter.unusedVariables false
set_option linter.unusedSimpArgs false
set_option maxHeartbeats 8000000
set_option maxRecDepth 100000
attribute [local go_sem ↓] Go.wp_at_zero Go.wp_at_succ
theorem sw_tr_mlgone {V U : World} {A E X ge m q3 j : Nat} {F : Nat → Prop} {b : Bs} {x1 x2 : Option Addr} {y1 y2 : Nat} {left : Int} {p : Option Addr} {n c : Nat} {e : Ev} {es : List Ev} (s : Sw V U A E X ge m j F b x1 x2 y1 y2 e es) {a : Ev} {y : Or} {r : List Or} (hol : n = (y :: r).length) (had : a.sd = 1 ∨ a.sd = 2) (hA : U.heap[A]? = some (.cells (ecs a).toArray 58 (0, 0))) (k4 : Sd U F p c (y :: r)) (ob : OrB y) (kd : e.kd = 3) (q0 : 0 ≤ left) (q1 : left < 4294967296) (i1 : e.id = a.id) (i2 : e.ot = y.id) (i3 : e.pr = y.pr) (i4 : e.sd = a.sd) (hty : a.ty = 2) (hlt : y.vi < left) (hqt : e.qt = y.vi) (hv : y.vi - y.vi = 0) (hh : y.hi = 0) (kp : Pr a (left - y.vi) r es) {cd : Code} (hc : (Try.f7.body.bind (blk 4)) = some cd) (u0 u1 u2 u3 u4 u5 u6 u7 u15 u16 u17 u18 u19 u20 u21 u22 u23 u24 u25 u26 u27 u28 u29 u30 u31 u32 u33 u34 u35 u36 u37 u38 u39 u40 u41 u42 u43 u44 u45 u46 u47 u48 u49 u50 u51 u52 u53 u54 u55 u57 u58 u59 u60 u61 u62 u63 u64 u65 u66 u67 u68 u69 u70 u71 u72 u73 u74 u75 u76 u77 u78 u79 u80 u81 u82 u83 u84 u85 u86 u87 u88 u89 u90 u91 u92 u93 u94 u95 u96 u97 u98 u99 u100 u101 u102 u103 u104 u105 u106 u107 u108 u109 u110 u111 u112 u113 u114 u115 u116 u117 u118 u119 u120 u121 u122 u123 u124 u125 u126 u127 u128 u129 u130 u131 u132 u133 u134 u135 u136 u137 u138 u139 u140 u141 u142 u143 u144 u145 u146 u147 u148 u149 u150 u151 u152 u153 u154 u155 u156 u157 u158 u159 u160 u161 u162 u163 u164 u165 u166 u167 u168 u169 u170 u171 u172 u173 u174 u175 u176 u177 u178 u179 u180 u181 u182 u183 u184 u185 u186 u187 u188 u189 u190 u191 u192 u193 u194 u195 u196 u197 u198 u199 u200 u201 u202 u203 u204 u205 u206 u207 u208 u209 u210 u211 u212 u213 u214 u215 u216 u217 u218 u219 u220 u221 u222 u223 u224 u225 u226 u227 u228 u229 u230 u231 u232 u233 u234 u235 u236 u237 u238 u239 u240 u241 u242 u243 u244 u245 u246 u247 u248 u249 u250 u251 u252 u253 u254 u255 u256 u257 u258 u259 u260 u261 u262 u263 u264 u265 u266 u267 u268 u269 u270 u271 u272 u273 u274 u275 u276 u277 u278 u279 u280 u281 u282 u283 u284 u285 u286 u287 u288 u289 u290 u291 u292 u293 u294 u295 u296 u297 u298 u299 u300 u301 u302 u303 u304 u305 u306 u307 u308 u309 u310 u311 u312 u313 u314 u315 u316 u317 u318 u319 : Value)
    {Q : Exit → Act → World → Prop} (hQ : ∀ (left2 : Int) (p2 : Option Addr) (n2 c2 : Nat) (U2 : World) (v15 v16 v57 v58 v59 v60 v61 v62 v63 v64 v65 v66 v67 v68 v69 v70 v71 v72 v73 v74 v75 v76 v77 v78 v79 v80 v81 v82 v83 v84 v85 v86 v87 v88 v89 v90 v91 v92 v93 v94 v95 v96 v97 v98 v99 v100 v101 v102 v103 v104 v105 v106 v107 v108 v109 v110 v111 v112 v113 v114 v115 v116 v117 v118 v119 v120 v121 v122 v123 v124 v125 v126 v127 v128 v129 v130 v131 v132 v133 v134 v135 v136 v137 v138 v139 v140 v141 v142 v143 v144 v145 v146 v147 v148 v149 v150 v151 v152 v153 v154 v155 v156 v157 v158 v159 v160 v161 v162 v163 v164 v165 v166 v167 v168 v169 v170 v171 v172 v173 v174 v175 v176 v177 v178 v179 v180 v181 v182 v183 v184 v185 v186 v187 v188 v189 v190 v191 v192 v193 v194 v195 v196 v197 v198 v199 v200 v201 v202 v203 v204 v205 v206 v207 v208 v209 v210 v211 v212 v213 v214 v215 v216 v217 v218 v219 v220 v221 v222 v223 v224 v225 v226 v227 v228 v229 v230 v231 v232 v233 v234 v235 v236 v237 v238 v239 v240 v241 v242 v243 v244 v245 v246 v247 v248 v249 v250 v251 v252 v253 v254 v255 v256 v257 v258 v259 v260 v261 v262 v263 v264 v265 v266 v267 v268 v269 v270 v271 v272 v273 v274 v275 v276 v277 v278 v279 v280 v281 v282 v283 v284 v285 v286 v287 v288 v289 v290 v291 v292 v293 v294 v295 v296 v297 v298 v299 v300 v301 v302 v303 v304 v305 v306 v307 v308 v309 v310 v311 v312 v313 v314 v315 v316 v317 v318 v319 : Value), Kp (fun j => j = A ∨ F j) V U2 → Hl b A F (.slice x1 b.l1.length y1) (.slice x2 b.l2.length y2) U2 left2 p2 n2 c2 es → Q .normal { tmps := #[u0, u1, u2, u3, u4, u5, u6, u7, .pointer (some ⟨X, 0, none⟩), .slice (some ⟨ge, 0, none⟩) m q3, .pointer (some ⟨A, 0, none⟩), .int .u64 left2, .slice p2 n2 c2, .int .i64 (j : Int), .pointer (some ⟨E, 0, none⟩), v15, v16, u17, u18, u19, u20, u21, u22, u23, u24, u25, u26, u27, u28, u29, u30, u31, u32, u33, u34, u35, u36, u37, u38, u39, u40, u41, u42, u43, u44, u45, u46, u47, u48, u49, u50, u51, u52, u53, u54, u55, .int .i64 e.kd, v57, v58, v59, v60, v61, v62, v63, v64, v65, v66, v67, v68, v69, v70, v71, v72, v73, v74, v75, v76, v77, v78, v79, v80, v81, v82, v83, v84, v85, v86, v87, v88, v89, v90, v91, v92, v93, v94, v95, v96, v97, v98, v99, v100, v101, v102, v103, v104, v105, v106, v107, v108, v109, v110, v111, v112, v113, v114, v115, v116, v117, v118, v119, v120, v121, v122, v123, v124, v125, v126, v127, v128, v129, v130, v131, v132, v133, v134, v135, v136, v137, v138, v139, v140, v141, v142, v143, v144, v145, v146, v147, v148, v149, v150, v151, v152, v153, v154, v155, v156, v157, v158, v159, v160, v161, v162, v163, v164, v165, v166, v167, v168, v169, v170, v171, v172, v173, v174, v175, v176, v177, v178, v179, v180, v181, v182, v183, v184, v185, v186, v187, v188, v189, v190, v191, v192, v193, v194, v195, v196, v197, v198, v199, v200, v201, v202, v203, v204, v205, v206, v207, v208, v209, v210, v211, v212, v213, v214, v215, v216, v217, v218, v219, v220, v221, v222, v223, v224, v225, v226, v227, v228, v229, v230, v231, v232, v233, v234, v235, v236, v237, v238, v239, v240, v241, v242, v243, v244, v245, v246, v247, v248, v249, v250, v251, v252, v253, v254, v255, v256, v257, v258, v259, v260, v261, v262, v263, v264, v265, v266, v267, v268, v269, v270, v271, v272, v273, v274, v275, v276, v277, v278, v279, v280, v281, v282, v283, v284, v285, v286, v287, v288, v289, v290, v291, v292, v293, v294, v295, v296, v297, v298, v299, v300, v301, v302, v303, v304, v305, v306, v307, v308, v309, v310, v311, v312, v313, v314, v315, v316, v317, v318, v319], defers := [] } U2) :
    cd.wp Try.prog Q { tmps := #[u0, u1, u2, u3, u4, u5, u6, u7, .pointer (some ⟨X, 0, none⟩), .slice (some ⟨ge, 0, none⟩) m q3, .pointer (some ⟨A, 0, none⟩), .int .u64 left, .slice p n c, .int .i64 (j : Int), .pointer (some ⟨E, 0, none⟩), u15, u16, u17, u18, u19, u20, u21, u22, u23, u24, u25, u26, u27, u28, u29, u30, u31, u32, u33, u34, u35, u36, u37, u38, u39, u40, u41, u42, u43, u44, u45, u46, u47, u48, u49, u50, u51, u52, u53, u54, u55, .int .i64 e.kd, u57, u58, u59, u60, u61, u62, u63, u64, u65, u66, u67, u68, u69, u70, u71, u72, u73, u74, u75, u76, u77, u78, u79, u80, u81, u82, u83, u84, u85, u86, u87, u88, u89, u90, u91, u92, u93, u94, u95, u96, u97, u98, u99, u100, u101, u102, u103, u104, u105, u106, u107, u108, u109, u110, u111, u112, u113, u114, u115, u116, u117, u118, u119, u120, u121, u122, u123, u124, u125, u126, u127, u128, u129, u130, u131, u132, u133, u134, u135, u136, u137, u138, u139, u140, u141, u142, u143, u144, u145, u146, u147, u148, u149, u150, u151, u152, u153, u154, u155, u156, u157, u158, u159, u160, u161, u162, u163, u164, u165, u166, u167, u168, u169, u170, u171, u172, u173, u174, u175, u176, u177, u178, u179, u180, u181, u182, u183, u184, u185, u186, u187, u188, u189, u190, u191, u192, u193, u194, u195, u196, u197, u198, u199, u200, u201, u202, u203, u204, u205, u206, u207, u208, u209, u210, u211, u212, u213, u214, u215, u216, u217, u218, u219, u220, u221, u222, u223, u224, u225, u226, u227, u228, u229, u230, u231, u232, u233, u234, u235, u236, u237, u238, u239, u240, u241, u242, u243, u244, u245, u246, u247, u248, u249, u250, u251, u252, u253, u254, u255, u256, u257, u258, u259, u260, u261, u262, u263, u264, u265, u266, u267, u268, u269, u270, u271, u272, u273, u274, u275, u276, u277, u278, u279, u280, u281, u282, u283, u284, u285, u286, u287, u288, u289, u290, u291, u292, u293, u294, u295, u296, u297, u298, u299, u300, u301, u302, u303, u304, u305, u306, u307, u308, u309, u310, u311, u312, u313, u314, u315, u316, u317, u318, u319], defers := [] } U := by
  simp only [Try.f7, blk, Option.bind, Option.or, Nat.reduceEqDiff, reduceCtorEq, if_false, if_true, reduceIte] at hc
  injection hc with hc
  subst hc
  have HQ := hid hQ
  clear hQ
  obtain ⟨e0, e1, e2, e3, e4, e5, e6, e7, e8, e9, e10, e11, e12⟩ := ev_row s.ex
  have hol' : n = r.length + 1 := hol
  have h0n : (0 : Int) < (n : Int) := by rw [hol']; exact Int.natCast_pos.2 (Nat.succ_pos _)
  have hnb : ((n : Int) == 0) = false := by rw [beq_eq_false_iff_ne]; exact Ne.symm (Int.ne_of_lt h0n)
  obtain ⟨g, off, cur, rfl, hFg, hrg, z0, z1, z2, z3, z4, z5, z6, fz⟩ := k4.head
  obtain ⟨a0, a1, a2, a3, a4, a5, a6, a7, a8, a9, a10, a11, a12⟩ := ev_row hA
  have K4 := hid k4
  have HFG := hid hFg
  have HRG := hid hrg
  have HOL := hid hol'
  have HOB := hid ob
  have HS := hid s
  have KA := hid hA
  clear k4 hFg hrg hol hol' ob s hA
  have HAD := hid had
  have HKP5 := hid kp
  rw [i1] at e2
  rw [i2] at e3
  rw [i3] at e8
  rw [i4] at e6
  rw [hqt] at e9
  rw [kd] at e1 HQ ⊢
  have I1 := hid i1
  have I3 := hid i3
  have I4 := hid i4
  have IQ := hid hqt
  have IK := hid kd
  have ITY := hid hty
  rw [hty] at a7
  clear hty
  have hlt' : decide (y.vi < left) = true := decide_eq_true hlt
  have HB := HOB.out
  obtain ⟨b1, b2, b3, b4⟩ := HB
  have hwl : IntKind.u64.wrap (left - y.vi) = left - y.vi := by rw [IntKind.wrap_u64]; omega
  have hwv : IntKind.u64.wrap (y.vi - y.vi) = y.vi - y.vi := by rw [IntKind.wrap_u64]; omega
  have n1 : (a.id != a.id) = false := by simp
  have n2 : (y.id != y.id) = false := by simp
  have n3 : (y.pr != y.pr) = false := by simp
  have n4 : (a.sd != a.sd) = false := by simp
  have n5 : (y.vi != y.vi) = false := by simp
  have HV := hid hv
  have HH := hid hh
  clear kp hqt i1 i2 i3 i4 kd had hv b1 b2 b3 b4 q0 q1 hh 
  go_upto_region 23 with fail
  go_quiet (fail)
  obtain ⟨U1, hU1⟩ : ∃ U1, U.drewN nq = U1 := ⟨_, rfl⟩
  have hb1 : Below U.heap.size U U1 := by rw [← hU1]; exact bdrew _ _
  rw [hU1]
  have K41 := hid (K4.out.on hb1)
  have KA1 := hid (row_on KA.out hb1)
  have KE1 := hid (row_on HS.out.ex hb1)
  have KP1 := hid (HS.out.kp.trans (Kp.of (fun _ => False) hb1) (fun _ _ h => h.elim))
  have HB1 := hid hb1
  clear hU1 hb1 e0 e1 e2 e3 e4 e5 e6 e7 e8 e9 e10 e11 e12 a0 a1 a2 a3 a4 a5 a6 a7 a8 a9 a10 a11 a12 z0 z1 z2 z3 z4 z5 z6 fz
  obtain ⟨e0, e1, e2, e3, e4, e5, e6, e7, e8, e9, e10, e11, e12⟩ := ev_row KE1.out
  obtain ⟨a0, a1, a2, a3, a4, a5, a6, a7, a8, a9, a10, a11, a12⟩ := ev_row KA1.out
  obtain ⟨g', off', cur', hp', hx1, hx2, z0, z1, z2, z3, z4, z5, z6, fz⟩ := K41.out.head
  injection hp' with hp'
  injection hp' with h1 h2
  subst h1
  subst h2
  clear hx1 hx2
  rw [I3.out] at e8
  rw [IQ.out] at e9
  rw [I4.out] at e6
  rw [ITY.out] at a7
  go_upto_region 34 with fail
  obtain ⟨U2, hU2⟩ : ∃ U2, U1.setCell ⟨g, off + 4, none⟩ (.int .u64 0) = U2 := ⟨_, rfl⟩
  have hk2 : Kp (fun j => j = g) U1 U2 := by rw [← hU2]; exact Kp.set _ _ _ _
  have K42 := hid (show Sd U2 F (some ⟨g, off, none⟩) c ({ y with vi := 0 } :: r) from by rw [← hU2]; exact K41.out.set _)
  rw [hU2]
  have hgA : A ≠ g := Ne.symm (HS.out.fa g HFG.out)
  have KA2 := hid (hk2.row KA1.out hgA)
  have KP2 := hid (KP1.out.trans hk2 (fun j _ h => .inr (by rw [h]; exact HFG.out)))
  clear hU2 hk2 hgA e0 e1 e2 e3 e4 e5 e6 e7 e8 e9 e10 e11 e12 a0 a1 a2 a3 a4 a5 a6 a7 a8 a9 a10 a11 a12 z0 z1 z2 z3 z4 z5 z6 fz hwv hwl hlt' hlt n1 n2 n3 n4 n5
  obtain ⟨g', off', cur'', hp', hx1, hx2, z0, z1, z2, z3, z4, z5, z6, fz⟩ := K42.out.head
  injection hp' with hp'
  injection hp' with h1 h2
  subst h1
  subst h2
  simp only at z0 z1 z2 z3 z4 z5 z6
  clear hx1 hx2
  rw [HH.out] at z5
  have h1n : (1 : Int) ≤ (n : Int) := by have := HOL.out; omega
  have HT := hid (show n - 1 = r.length from by have := HOL.out; omega)
  by_cases hc1 : c = 1
  · subst hc1
    go_wp2
    exact HQ.out (left - y.vi) (some ⟨g, off, none⟩) (n - 1) 0 U2 _ _ _ _ _ _ _ _ _ _ _ _ _ _ _ _ _ _ _ _ _ _ _ _ _ _ _ _ _ _ _ _ _ _ _ _ _ _ _ _ _ _ _ _ _ _ _ _ _ _ _ _ _ _ _ _ _ _ _ _ _ _ _ _ _ _ _ _ _ _ _ _ _ _ _ _ _ _ _ _ _ _ _ _ _ _ _ _ _ _ _ _ _ _ _ _ _ _ _ _ _ _ _ _ _ _ _ _ _ _ _ _ _ _ _ _ _ _ _ _ _ _ _ _ _ _ _ _ _ _ _ _ _ _ _ _ _ _ _ _ _ _ _ _ _ _ _ _ _ _ _ _ _ _ _ _ _ _ _ _ _ _ _ _ _ _ _ _ _ _ _ _ _ _ _ _ _ _ _ _ _ _ _ _ _ _ _ _ _ _ _ _ _ _ _ _ _ _ _ _ _ _ _ _ _ _ _ _ _ _ _ _ _ _ _ _ _ _ _ _ _ _ _ _ _ _ _ _ _ _ _ _ _ _ _ _ _ _ _ _ _ _ _ _ _ _ _ _ _ _ _ _ _ _ _ _ _ _ _ _ _ _ _ _ _ KP2.out (.inr ⟨a, r, HT.out, HAD.out, KA2.out, K42.out.tail1, HKP5.out⟩)
  · go_wp2
    exact HQ.out (left - y.vi) (some ⟨g, off + 7, none⟩) (n - 1) (c - 1) U2 _ _ _ _ _ _ _ _ _ _ _ _ _ _ _ _ _ _ _ _ _ _ _ _ _ _ _ _ _ _ _ _ _ _ _ _ _ _ _ _ _ _ _ _ _ _ _ _ _ _ _ _ _ _ _ _ _ _ _ _ _ _ _ _ _ _ _ _ _ _ _ _ _ _ _ _ _ _ _ _ _ _ _ _ _ _ _ _ _ _ _ _ _ _ _ _ _ _ _ _ _ _ _ _ _ _ _ _ _ _ _ _ _ _ _ _ _ _ _ _ _ _ _ _ _ _ _ _ _ _ _ _ _ _ _ _ _ _ _ _ _ _ _ _ _ _ _ _ _ _ _ _ _ _ _ _ _ _ _ _ _ _ _ _ _ _ _ _ _ _ _ _ _ _ _ _ _ _ _ _ _ _ _ _ _ _ _ _ _ _ _ _ _ _ _ _ _ _ _ _ _ _ _ _ _ _ _ _ _ _ _ _ _ _ _ _ _ _ _ _ _ _ _ _ _ _ _ _ _ _ _ _ _ _ _ _ _ _ _ _ _ _ _ _ _ _ _ _ _ _ _ _ _ _ _ _ _ _ _ _ _ _ _ _ _ KP2.out (.inr ⟨a, r, HT.out, HAD.out, KA2.out, K42.out.tail (fun _ => rfl), HKP5.out⟩)
theorem sw_tr_mlempty {V U : World} {A E X ge m q3 j : Nat} {F : Nat → Prop} {b : Bs} {x1 x2 : Option Addr} {y1 y2 : Nat} {left : Int} {p : Option Addr} {n c : Nat} {e : Ev} {es : List Ev} (s : Sw V U A E X ge m j F b x1 x2 y1 y2 e es) {a : Ev} {y : Or} {r : List Or} (hol : n = (y :: r).length) (had : a.sd = 1 ∨ a.sd = 2) (hA : U.heap[A]? = some (.cells (ecs a).toArray 58 (0, 0))) (k4 : Sd U F p c (y :: r)) (ob : OrB y) (kd : e.kd = 3) (q0 : 0 ≤ left) (q1 : left < 4294967296) (i1 : e.id = a.id) (i2 : e.ot = y.id) (i3 : e.pr = y.pr) (i4 : e.sd = a.sd) (hty : a.ty = 2) (hlt : y.vi < left) (hqt : e.qt = y.vi) (hv : y.vi - y.vi = 0) (hh : y.hi ≠ 0) (hn5 : ∃ e' es', es = e' :: es' ∧ e'.kd = 5) (kp : Pr a (left - y.vi) (y.less y.vi :: r) es) {cd : Code} (hc : (Try.f7.body.bind (blk 4)) = some cd) (u0 u1 u2 u3 u4 u5 u6 u7 u15 u16 u17 u18 u19 u20 u21 u22 u23 u24 u25 u26 u27 u28 u29 u30 u31 u32 u33 u34 u35 u36 u37 u38 u39 u40 u41 u42 u43 u44 u45 u46 u47 u48 u49 u50 u51 u52 u53 u54 u55 u57 u58 u59 u60 u61 u62 u63 u64 u65 u66 u67 u68 u69 u70 u71 u72 u73 u74 u75 u76 u77 u78 u79 u80 u81 u82 u83 u84 u85 u86 u87 u88 u89 u90 u91 u92 u93 u94 u95 u96 u97 u98 u99 u100 u101 u102 u103 u104 u105 u106 u107 u108 u109 u110 u111 u112 u113 u114 u115 u116 u117 u118 u119 u120 u121 u122 u123 u124 u125 u126 u127 u128 u129 u130 u131 u132 u133 u134 u135 u136 u137 u138 u139 u140 u141 u142 u143 u144 u145 u146 u147 u148 u149 u150 u151 u152 u153 u154 u155 u156 u157 u158 u159 u160 u161 u162 u163 u164 u165 u166 u167 u168 u169 u170 u171 u172 u173 u174 u175 u176 u177 u178 u179 u180 u181 u182 u183 u184 u185 u186 u187 u188 u189 u190 u191 u192 u193 u194 u195 u196 u197 u198 u199 u200 u201 u202 u203 u204 u205 u206 u207 u208 u209 u210 u211 u212 u213 u214 u215 u216 u217 u218 u219 u220 u221 u222 u223 u224 u225 u226 u227 u228 u229 u230 u231 u232 u233 u234 u235 u236 u237 u238 u239 u240 u241 u242 u243 u244 u245 u246 u247 u248 u249 u250 u251 u252 u253 u254 u255 u256 u257 u258 u259 u260 u261 u262 u263 u264 u265 u266 u267 u268 u269 u270 u271 u272 u273 u274 u275 u276 u277 u278 u279 u280 u281 u282 u283 u284 u285 u286 u287 u288 u289 u290 u291 u292 u293 u294 u295 u296 u297 u298 u299 u300 u301 u302 u303 u304 u305 u306 u307 u308 u309 u310 u311 u312 u313 u314 u315 u316 u317 u318 u319 : Value)
    {Q : Exit → Act → World → Prop} (hQ : ∀ (left2 : Int) (p2 : Option Addr) (n2 c2 : Nat) (U2 : World) (v15 v16 v57 v58 v59 v60 v61 v62 v63 v64 v65 v66 v67 v68 v69 v70 v71 v72 v73 v74 v75 v76 v77 v78 v79 v80 v81 v82 v83 v84 v85 v86 v87 v88 v89 v90 v91 v92 v93 v94 v95 v96 v97 v98 v99 v100 v101 v102 v103 v104 v105 v106 v107 v108 v109 v110 v111 v112 v113 v114 v115 v116 v117 v118 v119 v120 v121 v122 v123 v124 v125 v126 v127 v128 v129 v130 v131 v132 v133 v134 v135 v136 v137 v138 v139 v140 v141 v142 v143 v144 v145 v146 v147 v148 v149 v150 v151 v152 v153 v154 v155 v156 v157 v158 v159 v160 v161 v162 v163 v164 v165 v166 v167 v168 v169 v170 v171 v172 v173 v174 v175 v176 v177 v178 v179 v180 v181 v182 v183 v184 v185 v186 v187 v188 v189 v190 v191 v192 v193 v194 v195 v196 v197 v198 v199 v200 v201 v202 v203 v204 v205 v206 v207 v208 v209 v210 v211 v212 v213 v214 v215 v216 v217 v218 v219 v220 v221 v222 v223 v224 v225 v226 v227 v228 v229 v230 v231 v232 v233 v234 v235 v236 v237 v238 v239 v240 v241 v242 v243 v244 v245 v246 v247 v248 v249 v250 v251 v252 v253 v254 v255 v256 v257 v258 v259 v260 v261 v262 v263 v264 v265 v266 v267 v268 v269 v270 v271 v272 v273 v274 v275 v276 v277 v278 v279 v280 v281 v282 v283 v284 v285 v286 v287 v288 v289 v290 v291 v292 v293 v294 v295 v296 v297 v298 v299 v300 v301 v302 v303 v304 v305 v306 v307 v308 v309 v310 v311 v312 v313 v314 v315 v316 v317 v318 v319 : Value), Kp (fun j => j = A ∨ F j) V U2 → Hl b A F (.slice x1 b.l1.length y1) (.slice x2 b.l2.length y2) U2 left2 p2 n2 c2 es → Q .normal { tmps := #[u0, u1, u2, u3, u4, u5, u6, u7, .pointer (some ⟨X, 0, none⟩), .slice (some ⟨ge, 0, none⟩) m q3, .pointer (some ⟨A, 0, none⟩), .int .u64 left2, .slice p2 n2 c2, .int .i64 (j : Int), .pointer (some ⟨E, 0, none⟩), v15, v16, u17, u18, u19, u20, u21, u22, u23, u24, u25, u26, u27, u28, u29, u30, u31, u32, u33, u34, u35, u36, u37, u38, u39, u40, u41, u42, u43, u44, u45, u46, u47, u48, u49, u50, u51, u52, u53, u54, u55, .int .i64 e.kd, v57, v58, v59, v60, v61, v62, v63, v64, v65, v66, v67, v68, v69, v70, v71, v72, v73, v74, v75, v76, v77, v78, v79, v80, v81, v82, v83, v84, v85, v86, v87, v88, v89, v90, v91, v92, v93, v94, v95, v96, v97, v98, v99, v100, v101, v102, v103, v104, v105, v106, v107, v108, v109, v110, v111, v112, v113, v114, v115, v116, v117, v118, v119, v120, v121, v122, v123, v124, v125, v126, v127, v128, v129, v130, v131, v132, v133, v134, v135, v136, v137, v138, v139, v140, v141, v142, v143, v144, v145, v146, v147, v148, v149, v150, v151, v152, v153, v154, v155, v156, v157, v158, v159, v160, v161, v162, v163, v164, v165, v166, v167, v168, v169, v170, v171, v172, v173, v174, v175, v176, v177, v178, v179, v180, v181, v182, v183, v184, v185, v186, v187, v188, v189, v190, v191, v192, v193, v194, v195, v196, v197, v198, v199, v200, v201, v202, v203, v204, v205, v206, v207, v208, v209, v210, v211, v212, v213, v214, v215, v216, v217, v218, v219, v220, v221, v222, v223, v224, v225, v226, v227, v228, v229, v230, v231, v232, v233, v234, v235, v236, v237, v238, v239, v240, v241, v242, v243, v244, v245, v246, v247, v248, v249, v250, v251, v252, v253, v254, v255, v256, v257, v258, v259, v260, v261, v262, v263, v264, v265, v266, v267, v268, v269, v270, v271, v272, v273, v274, v275, v276, v277, v278, v279, v280, v281, v282, v283, v284, v285, v286, v287, v288, v289, v290, v291, v292, v293, v294, v295, v296, v297, v298, v299, v300, v301, v302, v303, v304, v305, v306, v307, v308, v309, v310, v311, v312, v313, v314, v315, v316, v317, v318, v319], defers := [] } U2) :
    cd.wp Try.prog Q { tmps := #[u0, u1, u2, u3, u4, u5, u6, u7, .pointer (some ⟨X, 0, none⟩), .slice (some ⟨ge, 0, none⟩) m q3, .pointer (some ⟨A, 0, none⟩), .int .u64 left, .slice p n c, .int .i64 (j : Int), .pointer (some ⟨E, 0, none⟩), u15, u16, u17, u18, u19, u20, u21, u22, u23, u24, u25, u26, u27, u28, u29, u30, u31, u32, u33, u34, u35, u36, u37, u38, u39, u40, u41, u42, u43, u44, u45, u46, u47, u48, u49, u50, u51, u52, u53, u54, u55, .int .i64 e.kd, u57, u58, u59, u60, u61, u62, u63, u64, u65, u66, u67, u68, u69, u70, u71, u72, u73, u74, u75, u76, u77, u78, u79, u80, u81, u82, u83, u84, u85, u86, u87, u88, u89, u90, u91, u92, u93, u94, u95, u96, u97, u98, u99, u100, u101, u102, u103, u104, u105, u106, u107, u108, u109, u110, u111, u112, u113, u114, u115, u116, u117, u118, u119, u120, u121, u122, u123, u124, u125, u126, u127, u128, u129, u130, u131, u132, u133, u134, u135, u136, u137, u138, u139, u140, u141, u142, u143, u144, u145, u146, u147, u148, u149, u150, u151, u152, u153, u154, u155, u156, u157, u158, u159, u160, u161, u162, u163, u164, u165, u166, u167, u168, u169, u170, u171, u172, u173, u174, u175, u176, u177, u178, u179, u180, u181, u182, u183, u184, u185, u186, u187, u188, u189, u190, u191, u192, u193, u194, u195, u196, u197, u198, u199, u200, u201, u202, u203, u204, u205, u206, u207, u208, u209, u210, u211, u212, u213, u214, u215, u216, u217, u218, u219, u220, u221, u222, u223, u224, u225, u226, u227, u228, u229, u230, u231, u232, u233, u234, u235, u236, u237, u238, u239, u240, u241, u242, u243, u244, u245, u246, u247, u248, u249, u250, u251, u252, u253, u254, u255, u256, u257, u258, u259, u260, u261, u262, u263, u264, u265, u266, u267, u268, u269, u270, u271, u272, u273, u274, u275, u276, u277, u278, u279, u280, u281, u282, u283, u284, u285, u286, u287, u288, u289, u290, u291, u292, u293, u294, u295, u296, u297, u298, u299, u300, u301, u302, u303, u304, u305, u306, u307, u308, u309, u310, u311, u312, u313, u314, u315, u316, u317, u318, u319], defers := [] } U := by
  simp only [Try.f7, blk, Option.bind, Option.or, Nat.reduceEqDiff, reduceCtorEq, if_false, if_true, reduceIte] at hc
  injection hc with hc
  subst hc
  have HQ := hid hQ
  clear hQ
  obtain ⟨e0, e1, e2, e3, e4, e5, e6, e7, e8, e9, e10, e11, e12⟩ := ev_row s.ex
  have hol' : n = r.length + 1 := hol
  have h0n : (0 : Int) < (n : Int) := by rw [hol']; exact Int.natCast_pos.2 (Nat.succ_pos _)
  have hnb : ((n : Int) == 0) = false := by rw [beq_eq_false_iff_ne]; exact Ne.symm (Int.ne_of_lt h0n)
  obtain ⟨g, off, cur, rfl, hFg, hrg, z0, z1, z2, z3, z4, z5, z6, fz⟩ := k4.head
  obtain ⟨a0, a1, a2, a3, a4, a5, a6, a7, a8, a9, a10, a11, a12⟩ := ev_row hA
  have K4 := hid k4
  have HFG := hid hFg
  have HRG := hid hrg
  have HOL := hid hol'
  have HOB := hid ob
  have HS := hid s
  have KA := hid hA
  clear k4 hFg hrg hol hol' ob s hA
  have HAD := hid had
  have HKP5 := hid kp
  rw [i1] at e2
  rw [i2] at e3
  rw [i3] at e8
  rw [i4] at e6
  rw [hqt] at e9
  rw [kd] at e1 HQ ⊢
  have I1 := hid i1
  have I3 := hid i3
  have I4 := hid i4
  have IQ := hid hqt
  have IK := hid kd
  have ITY := hid hty
  rw [hty] at a7
  clear hty
  have hlt' : decide (y.vi < left) = true := decide_eq_true hlt
  have HB := HOB.out
  obtain ⟨b1, b2, b3, b4⟩ := HB
  have hwl : IntKind.u64.wrap (left - y.vi) = left - y.vi := by rw [IntKind.wrap_u64]; omega
  have hwv : IntKind.u64.wrap (y.vi - y.vi) = y.vi - y.vi := by rw [IntKind.wrap_u64]; omega
  have n1 : (a.id != a.id) = false := by simp
  have n2 : (y.id != y.id) = false := by simp
  have n3 : (y.pr != y.pr) = false := by simp
  have n4 : (a.sd != a.sd) = false := by simp
  have n5 : (y.vi != y.vi) = false := by simp
  have HV := hid hv
  have HH := hid hh
  have HN5 := hid hn5
  clear kp hqt i1 i2 i3 i4 kd had hv b1 b2 b3 b4 q0 q1 hh hn5
  go_upto_region 23 with fail
  go_quiet (fail)
  obtain ⟨U1, hU1⟩ : ∃ U1, U.drewN nq = U1 := ⟨_, rfl⟩
  have hb1 : Below U.heap.size U U1 := by rw [← hU1]; exact bdrew _ _
  rw [hU1]
  have K41 := hid (K4.out.on hb1)
  have KA1 := hid (row_on KA.out hb1)
  have KE1 := hid (row_on HS.out.ex hb1)
  have KP1 := hid (HS.out.kp.trans (Kp.of (fun _ => False) hb1) (fun _ _ h => h.elim))
  have HB1 := hid hb1
  clear hU1 hb1 e0 e1 e2 e3 e4 e5 e6 e7 e8 e9 e10 e11 e12 a0 a1 a2 a3 a4 a5 a6 a7 a8 a9 a10 a11 a12 z0 z1 z2 z3 z4 z5 z6 fz
  obtain ⟨e0, e1, e2, e3, e4, e5, e6, e7, e8, e9, e10, e11, e12⟩ := ev_row KE1.out
  obtain ⟨a0, a1, a2, a3, a4, a5, a6, a7, a8, a9, a10, a11, a12⟩ := ev_row KA1.out
  obtain ⟨g', off', cur', hp', hx1, hx2, z0, z1, z2, z3, z4, z5, z6, fz⟩ := K41.out.head
  injection hp' with hp'
  injection hp' with h1 h2
  subst h1
  subst h2
  clear hx1 hx2
  rw [I3.out] at e8
  rw [IQ.out] at e9
  rw [I4.out] at e6
  rw [ITY.out] at a7
  go_upto_region 34 with fail
  obtain ⟨U2, hU2⟩ : ∃ U2, U1.setCell ⟨g, off + 4, none⟩ (.int .u64 0) = U2 := ⟨_, rfl⟩
  have hk2 : Kp (fun j => j = g) U1 U2 := by rw [← hU2]; exact Kp.set _ _ _ _
  have K42 := hid (show Sd U2 F (some ⟨g, off, none⟩) c ({ y with vi := 0 } :: r) from by rw [← hU2]; exact K41.out.set _)
  rw [hU2]
  have hgA : A ≠ g := Ne.symm (HS.out.fa g HFG.out)
  have KA2 := hid (hk2.row KA1.out hgA)
  have KP2 := hid (KP1.out.trans hk2 (fun j _ h => .inr (by rw [h]; exact HFG.out)))
  have HNX := hid (show j + 1 < m ∧ U2.cell? ⟨ge, (j + 1) * 13 + 1, none⟩ = some (.int .i64 5) from by
    obtain ⟨e', es', h1, h2⟩ := HN5.out
    obtain ⟨h3, h4⟩ := HS.out.nx e' es' h1
    obtain ⟨cur2, h5⟩ := HS.out.gr
    have h6 := row_on h5 HB1.out
    have hne : ge ≠ g := row_ne h5 HRG.out (by decide)
    have h7 := hk2.row h6 hne
    refine ⟨h3, ?_⟩
    rw [row_cell h5] at h4
    rw [row_cell h7, h4, h2])
  clear hU2 hk2 hgA e0 e1 e2 e3 e4 e5 e6 e7 e8 e9 e10 e11 e12 a0 a1 a2 a3 a4 a5 a6 a7 a8 a9 a10 a11 a12 z0 z1 z2 z3 z4 z5 z6 fz hwv hwl hlt' hlt n1 n2 n3 n4 n5
  obtain ⟨g', off', cur'', hp', hx1, hx2, z0, z1, z2, z3, z4, z5, z6, fz⟩ := K42.out.head
  injection hp' with hp'
  injection hp' with h1 h2
  subst h1
  subst h2
  simp only at z0 z1 z2 z3 z4 z5 z6
  clear hx1 hx2
  have hh0 : (y.hi == 0) = false := by rw [beq_eq_false_iff_ne]; exact HH.out
  obtain ⟨hj1, hjc⟩ := HNX.out
  have hm := HS.out.mx
  have hj2 : ((j : Int) + 1 == (m : Int)) = false := by rw [beq_eq_false_iff_ne]; omega
  have hj3 : (j : Int) + 1 < (m : Int) := by omega
  have hj4 : (0 : Int) ≤ (j : Int) + 1 := by omega
  have hj5 : ((j : Int) + 1).toNat = j + 1 := by omega
  have hj6 : IntKind.i64.wrap ((j : Int) + 1) = (j : Int) + 1 := by simp [IntKind.wrap, IntKind.bits, IntKind.signed]; omega
  clear hj1 hm
  go_wp2
  exact HQ.out (left - y.vi) (some ⟨g, off, none⟩) n c U2 _ _ _ _ _ _ _ _ _ _ _ _ _ _ _ _ _ _ _ _ _ _ _ _ _ _ _ _ _ _ _ _ _ _ _ _ _ _ _ _ _ _ _ _ _ _ _ _ _ _ _ _ _ _ _ _ _ _ _ _ _ _ _ _ _ _ _ _ _ _ _ _ _ _ _ _ _ _ _ _ _ _ _ _ _ _ _ _ _ _ _ _ _ _ _ _ _ _ _ _ _ _ _ _ _ _ _ _ _ _ _ _ _ _ _ _ _ _ _ _ _ _ _ _ _ _ _ _ _ _ _ _ _ _ _ _ _ _ _ _ _ _ _ _ _ _ _ _ _ _ _ _ _ _ _ _ _ _ _ _ _ _ _ _ _ _ _ _ _ _ _ _ _ _ _ _ _ _ _ _ _ _ _ _ _ _ _ _ _ _ _ _ _ _ _ _ _ _ _ _ _ _ _ _ _ _ _ _ _ _ _ _ _ _ _ _ _ _ _ _ _ _ _ _ _ _ _ _ _ _ _ _ _ _ _ _ _ _ _ _ _ _ _ _ _ _ _ _ _ _ _ _ _ _ _ _ _ _ _ _ _ _ _ _ _ KP2.out (.inr ⟨a, y.less y.vi :: r, HOL.out, HAD.out, KA2.out, K42.out.less0, HKP5.out⟩)
theorem sw_tr_mggone {V U : World} {A E X ge m q3 j : Nat} {F : Nat → Prop} {b : Bs} {x1 x2 : Option Addr} {y1 y2 : Nat} {left : Int} {p : Option Addr} {n c : Nat} {e : Ev} {es : List Ev} (s : Sw V U A E X ge m j F b x1 x2 y1 y2 e es) {a : Ev} {y : Or} {r : List Or} (hol : n = (y :: r).length) (had : a.sd = 1 ∨ a.sd = 2) (hA : U.heap[A]? = some (.cells (ecs a).toArray 58 (0, 0))) (k4 : Sd U F p c (y :: r)) (ob : OrB y) (kd : e.kd = 3) (q0 : 0 ≤ left) (q1 : left < 4294967296) (i1 : e.id = a.id) (i2 : e.ot = y.id) (i3 : e.pr = y.pr) (i4 : e.sd = a.sd) (hty : a.ty = 2) (hlt : ¬ y.vi < left) (hqt : e.qt = left) (hv : y.vi - left = 0) (hh : y.hi = 0) (kp : Pr a (left - left) r es) {cd : Code} (hc : (Try.f7.body.bind (blk 4)) = some cd) (u0 u1 u2 u3 u4 u5 u6 u7 u15 u16 u17 u18 u19 u20 u21 u22 u23 u24 u25 u26 u27 u28 u29 u30 u31 u32 u33 u34 u35 u36 u37 u38 u39 u40 u41 u42 u43 u44 u45 u46 u47 u48 u49 u50 u51 u52 u53 u54 u55 u57 u58 u59 u60 u61 u62 u63 u64 u65 u66 u67 u68 u69 u70 u71 u72 u73 u74 u75 u76 u77 u78 u79 u80 u81 u82 u83 u84 u85 u86 u87 u88 u89 u90 u91 u92 u93 u94 u95 u96 u97 u98 u99 u100 u101 u102 u103 u104 u105 u106 u107 u108 u109 u110 u111 u112 u113 u114 u115 u116 u117 u118 u119 u120 u121 u122 u123 u124 u125 u126 u127 u128 u129 u130 u131 u132 u133 u134 u135 u136 u137 u138 u139 u140 u141 u142 u143 u144 u145 u146 u147 u148 u149 u150 u151 u152 u153 u154 u155 u156 u157 u158 u159 u160 u161 u162 u163 u164 u165 u166 u167 u168 u169 u170 u171 u172 u173 u174 u175 u176 u177 u178 u179 u180 u181 u182 u183 u184 u185 u186 u187 u188 u189 u190 u191 u192 u193 u194 u195 u196 u197 u198 u199 u200 u201 u202 u203 u204 u205 u206 u207 u208 u209 u210 u211 u212 u213 u214 u215 u216 u217 u218 u219 u220 u221 u222 u223 u224 u225 u226 u227 u228 u229 u230 u231 u232 u233 u234 u235 u236 u237 u238 u239 u240 u241 u242 u243 u244 u245 u246 u247 u248 u249 u250 u251 u252 u253 u254 u255 u256 u257 u258 u259 u260 u261 u262 u263 u264 u265 u266 u267 u268 u269 u270 u271 u272 u273 u274 u275 u276 u277 u278 u279 u280 u281 u282 u283 u284 u285 u286 u287 u288 u289 u290 u291 u292 u293 u294 u295 u296 u297 u298 u299 u300 u301 u302 u303 u304 u305 u306 u307 u308 u309 u310 u311 u312 u313 u314 u315 u316 u317 u318 u319 : Value)
    {Q : Exit → Act → World → Prop} (hQ : ∀ (left2 : Int) (p2 : Option Addr) (n2 c2 : Nat) (U2 : World) (v15 v16 v57 v58 v59 v60 v61 v62 v63 v64 v65 v66 v67 v68 v69 v70 v71 v72 v73 v74 v75 v76 v77 v78 v79 v80 v81 v82 v83 v84 v85 v86 v87 v88 v89 v90 v91 v92 v93 v94 v95 v96 v97 v98 v99 v100 v101 v102 v103 v104 v105 v106 v107 v108 v109 v110 v111 v112 v113 v114 v115 v116 v117 v118 v119 v120 v121 v122 v123 v124 v125 v126 v127 v128 v129 v130 v131 v132 v133 v134 v135 v136 v137 v138 v139 v140 v141 v142 v143 v144 v145 v146 v147 v148 v149 v150 v151 v152 v153 v154 v155 v156 v157 v158 v159 v160 v161 v162 v163 v164 v165 v166 v167 v168 v169 v170 v171 v172 v173 v174 v175 v176 v177 v178 v179 v180 v181 v182 v183 v184 v185 v186 v187 v188 v189 v190 v191 v192 v193 v194 v195 v196 v197 v198 v199 v200 v201 v202 v203 v204 v205 v206 v207 v208 v209 v210 v211 v212 v213 v214 v215 v216 v217 v218 v219 v220 v221 v222 v223 v224 v225 v226 v227 v228 v229 v230 v231 v232 v233 v234 v235 v236 v237 v238 v239 v240 v241 v242 v243 v244 v245 v246 v247 v248 v249 v250 v251 v252 v253 v254 v255 v256 v257 v258 v259 v260 v261 v262 v263 v264 v265 v266 v267 v268 v269 v270 v271 v272 v273 v274 v275 v276 v277 v278 v279 v280 v281 v282 v283 v284 v285 v286 v287 v288 v289 v290 v291 v292 v293 v294 v295 v296 v297 v298 v299 v300 v301 v302 v303 v304 v305 v306 v307 v308 v309 v310 v311 v312 v313 v314 v315 v316 v317 v318 v319 : Value), Kp (fun j => j = A ∨ F j) V U2 → Hl b A F (.slice x1 b.l1.length y1) (.slice x2 b.l2.length y2) U2 left2 p2 n2 c2 es → Q .normal { tmps := #[u0, u1, u2, u3, u4, u5, u6, u7, .pointer (some ⟨X, 0, none⟩), .slice (some ⟨ge, 0, none⟩) m q3, .pointer (some ⟨A, 0, none⟩), .int .u64 left2, .slice p2 n2 c2, .int .i64 (j : Int), .pointer (some ⟨E, 0, none⟩), v15, v16, u17, u18, u19, u20, u21, u22, u23, u24, u25, u26, u27, u28, u29, u30, u31, u32, u33, u34, u35, u36, u37, u38, u39, u40, u41, u42, u43, u44, u45, u46, u47, u48, u49, u50, u51, u52, u53, u54, u55, .int .i64 e.kd, v57, v58, v59, v60, v61, v62, v63, v64, v65, v66, v67, v68, v69, v70, v71, v72, v73, v74, v75, v76, v77, v78, v79, v80, v81, v82, v83, v84, v85, v86, v87, v88, v89, v90, v91, v92, v93, v94, v95, v96, v97, v98, v99, v100, v101, v102, v103, v104, v105, v106, v107, v108, v109, v110, v111, v112, v113, v114, v115, v116, v117, v118, v119, v120, v121, v122, v123, v124, v125, v126, v127, v128, v129, v130, v131, v132, v133, v134, v135, v136, v137, v138, v139, v140, v141, v142, v143, v144, v145, v146, v147, v148, v149, v150, v151, v152, v153, v154, v155, v156, v157, v158, v159, v160, v161, v162, v163, v164, v165, v166, v167, v168, v169, v170, v171, v172, v173, v174, v175, v176, v177, v178, v179, v180, v181, v182, v183, v184, v185, v186, v187, v188, v189, v190, v191, v192, v193, v194, v195, v196, v197, v198, v199, v200, v201, v202, v203, v204, v205, v206, v207, v208, v209, v210, v211, v212, v213, v214, v215, v216, v217, v218, v219, v220, v221, v222, v223, v224, v225, v226, v227, v228, v229, v230, v231, v232, v233, v234, v235, v236, v237, v238, v239, v240, v241, v242, v243, v244, v245, v246, v247, v248, v249, v250, v251, v252, v253, v254, v255, v256, v257, v258, v259, v260, v261, v262, v263, v264, v265, v266, v267, v268, v269, v270, v271, v272, v273, v274, v275, v276, v277, v278, v279, v280, v281, v282, v283, v284, v285, v286, v287, v288, v289, v290, v291, v292, v293, v294, v295, v296, v297, v298, v299, v300, v301, v302, v303, v304, v305, v306, v307, v308, v309, v310, v311, v312, v313, v314, v315, v316, v317, v318, v319], defers := [] } U2) :
    cd.wp Try.prog Q { tmps := #[u0, u1, u2, u3, u4, u5, u6, u7, .pointer (some ⟨X, 0, none⟩), .slice (some ⟨ge, 0, none⟩) m q3, .pointer (some ⟨A, 0, none⟩), .int .u64 left, .slice p n c, .int .i64 (j : Int), .pointer (some ⟨E, 0, none⟩), u15, u16, u17, u18, u19, u20, u21, u22, u23, u24, u25, u26, u27, u28, u29, u30, u31, u32, u33, u34, u35, u36, u37, u38, u39, u40, u41, u42, u43, u44, u45, u46, u47, u48, u49, u50, u51, u52, u53, u54, u55, .int .i64 e.kd, u57, u58, u59, u60, u61, u62, u63, u64, u65, u66, u67, u68, u69, u70, u71, u72, u73, u74, u75, u76, u77, u78, u79, u80, u81, u82, u83, u84, u85, u86, u87, u88, u89, u90, u91, u92, u93, u94, u95, u96, u97, u98, u99, u100, u101, u102, u103, u104, u105, u106, u107, u108, u109, u110, u111, u112, u113, u114, u115, u116, u117, u118, u119, u120, u121, u122, u123, u124, u125, u126, u127, u128, u129, u130, u131, u132, u133, u134, u135, u136, u137, u138, u139, u140, u141, u142, u143, u144, u145, u146, u147, u148, u149, u150, u151, u152, u153, u154, u155, u156, u157, u158, u159, u160, u161, u162, u163, u164, u165, u166, u167, u168, u169, u170, u171, u172, u173, u174, u175, u176, u177, u178, u179, u180, u181, u182, u183, u184, u185, u186, u187, u188, u189, u190, u191, u192, u193, u194, u195, u196, u197, u198, u199, u200, u201, u202, u203, u204, u205, u206, u207, u208, u209, u210, u211, u212, u213, u214, u215, u216, u217, u218, u219, u220, u221, u222, u223, u224, u225, u226, u227, u228, u229, u230, u231, u232, u233, u234, u235, u236, u237, u238, u239, u240, u241, u242, u243, u244, u245, u246, u247, u248, u249, u250, u251, u252, u253, u254, u255, u256, u257, u258, u259, u260, u261, u262, u263, u264, u265, u266, u267, u268, u269, u270, u271, u272, u273, u274, u275, u276, u277, u278, u279, u280, u281, u282, u283, u284, u285, u286, u287, u288, u289, u290, u291, u292, u293, u294, u295, u296, u297, u298, u299, u300, u301, u302, u303, u304, u305, u306, u307, u308, u309, u310, u311, u312, u313, u314, u315, u316, u317, u318, u319], defers := [] } U := by
  simp only [Try.f7, blk, Option.bind, Option.or, Nat.reduceEqDiff, reduceCtorEq, if_false, if_true, reduceIte] at hc
  injection hc with hc
  subst hc
  have HQ := hid hQ
  clear hQ
  obtain ⟨e0, e1, e2, e3, e4, e5, e6, e7, e8, e9, e10, e11, e12⟩ := ev_row s.ex
  have hol' : n = r.length + 1 := hol
  have h0n : (0 : Int) < (n : Int) := by rw [hol']; exact Int.natCast_pos.2 (Nat.succ_pos _)
  have hnb : ((n : Int) == 0) = false := by rw [beq_eq_false_iff_ne]; exact Ne.symm (Int.ne_of_lt h0n)
  obtain ⟨g, off, cur, rfl, hFg, hrg, z0, z1, z2, z3, z4, z5, z6, fz⟩ := k4.head
  obtain ⟨a0, a1, a2, a3, a4, a5, a6, a7, a8, a9, a10, a11, a12⟩ := ev_row hA
  have K4 := hid k4
  have HFG := hid hFg
  have HRG := hid hrg
  have HOL := hid hol'
  have HOB := hid ob
  have HS := hid s
  have KA := hid hA
  clear k4 hFg hrg hol hol' ob s hA
  have HAD := hid had
  have HKP5 := hid kp
  rw [i1] at e2
  rw [i2] at e3
  rw [i3] at e8
  rw [i4] at e6
  rw [hqt] at e9
  rw [kd] at e1 HQ ⊢
  have I1 := hid i1
  have I3 := hid i3
  have I4 := hid i4
  have IQ := hid hqt
  have IK := hid kd
  have ITY := hid hty
  rw [hty] at a7
  clear hty
  have hlt' : decide (y.vi < left) = false := decide_eq_false hlt
  have HB := HOB.out
  obtain ⟨b1, b2, b3, b4⟩ := HB
  have hwl : IntKind.u64.wrap (left - left) = left - left := by rw [IntKind.wrap_u64]; omega
  have hwv : IntKind.u64.wrap (y.vi - left) = y.vi - left := by rw [IntKind.wrap_u64]; omega
  have n1 : (a.id != a.id) = false := by simp
  have n2 : (y.id != y.id) = false := by simp
  have n3 : (y.pr != y.pr) = false := by simp
  have n4 : (a.sd != a.sd) = false := by simp
  have n5 : (left != left) = false := by simp
  have HV := hid hv
  have HH := hid hh
  clear kp hqt i1 i2 i3 i4 kd had hv b1 b2 b3 b4 q0 q1 hh 
  go_upto_region 23 with fail
  go_quiet (fail)
  obtain ⟨U1, hU1⟩ : ∃ U1, U.drewN nq = U1 := ⟨_, rfl⟩
  have hb1 : Below U.heap.size U U1 := by rw [← hU1]; exact bdrew _ _
  rw [hU1]
  have K41 := hid (K4.out.on hb1)
  have KA1 := hid (row_on KA.out hb1)
  have KE1 := hid (row_on HS.out.ex hb1)
  have KP1 := hid (HS.out.kp.trans (Kp.of (fun _ => False) hb1) (fun _ _ h => h.elim))
  have HB1 := hid hb1
  clear hU1 hb1 e0 e1 e2 e3 e4 e5 e6 e7 e8 e9 e10 e11 e12 a0 a1 a2 a3 a4 a5 a6 a7 a8 a9 a10 a11 a12 z0 z1 z2 z3 z4 z5 z6 fz
  obtain ⟨e0, e1, e2, e3, e4, e5, e6, e7, e8, e9, e10, e11, e12⟩ := ev_row KE1.out
  obtain ⟨a0, a1, a2, a3, a4, a5, a6, a7, a8, a9, a10, a11, a12⟩ := ev_row KA1.out
  obtain ⟨g', off', cur', hp', hx1, hx2, z0, z1, z2, z3, z4, z5, z6, fz⟩ := K41.out.head
  injection hp' with hp'
  injection hp' with h1 h2
  subst h1
  subst h2
  clear hx1 hx2
  rw [I3.out] at e8
  rw [IQ.out] at e9
  rw [I4.out] at e6
  rw [ITY.out] at a7
  go_upto_region 34 with fail
  obtain ⟨U2, hU2⟩ : ∃ U2, U1.setCell ⟨g, off + 4, none⟩ (.int .u64 (y.vi - left)) = U2 := ⟨_, rfl⟩
  have hk2 : Kp (fun j => j = g) U1 U2 := by rw [← hU2]; exact Kp.set _ _ _ _
  have K42 := hid (show Sd U2 F (some ⟨g, off, none⟩) c ({ y with vi := (y.vi - left) } :: r) from by rw [← hU2]; exact K41.out.set _)
  rw [hU2]
  have hgA : A ≠ g := Ne.symm (HS.out.fa g HFG.out)
  have KA2 := hid (hk2.row KA1.out hgA)
  have KP2 := hid (KP1.out.trans hk2 (fun j _ h => .inr (by rw [h]; exact HFG.out)))
  clear hU2 hk2 hgA e0 e1 e2 e3 e4 e5 e6 e7 e8 e9 e10 e11 e12 a0 a1 a2 a3 a4 a5 a6 a7 a8 a9 a10 a11 a12 z0 z1 z2 z3 z4 z5 z6 fz hwv hwl hlt' hlt n1 n2 n3 n4 n5
  obtain ⟨g', off', cur'', hp', hx1, hx2, z0, z1, z2, z3, z4, z5, z6, fz⟩ := K42.out.head
  injection hp' with hp'
  injection hp' with h1 h2
  subst h1
  subst h2
  simp only at z0 z1 z2 z3 z4 z5 z6
  clear hx1 hx2
  have hv0 : (y.vi - left == 0) = true := by rw [HV.out]; rfl
  rw [HH.out] at z5
  have h1n : (1 : Int) ≤ (n : Int) := by have := HOL.out; omega
  have HT := hid (show n - 1 = r.length from by have := HOL.out; omega)
  by_cases hc1 : c = 1
  · subst hc1
    go_wp2
    exact HQ.out 0 (some ⟨g, off, none⟩) (n - 1) 0 U2 _ _ _ _ _ _ _ _ _ _ _ _ _ _ _ _ _ _ _ _ _ _ _ _ _ _ _ _ _ _ _ _ _ _ _ _ _ _ _ _ _ _ _ _ _ _ _ _ _ _ _ _ _ _ _ _ _ _ _ _ _ _ _ _ _ _ _ _ _ _ _ _ _ _ _ _ _ _ _ _ _ _ _ _ _ _ _ _ _ _ _ _ _ _ _ _ _ _ _ _ _ _ _ _ _ _ _ _ _ _ _ _ _ _ _ _ _ _ _ _ _ _ _ _ _ _ _ _ _ _ _ _ _ _ _ _ _ _ _ _ _ _ _ _ _ _ _ _ _ _ _ _ _ _ _ _ _ _ _ _ _ _ _ _ _ _ _ _ _ _ _ _ _ _ _ _ _ _ _ _ _ _ _ _ _ _ _ _ _ _ _ _ _ _ _ _ _ _ _ _ _ _ _ _ _ _ _ _ _ _ _ _ _ _ _ _ _ _ _ _ _ _ _ _ _ _ _ _ _ _ _ _ _ _ _ _ _ _ _ _ _ _ _ _ _ _ _ _ _ _ _ _ _ _ _ _ _ _ _ _ _ _ _ _ _ KP2.out (.inr ⟨a, r, HT.out, HAD.out, KA2.out, K42.out.tail1, (by have h := HKP5.out; rw [Int.sub_self] at h; exact h)⟩)
  · go_wp2
    exact HQ.out 0 (some ⟨g, off + 7, none⟩) (n - 1) (c - 1) U2 _ _ _ _ _ _ _ _ _ _ _ _ _ _ _ _ _ _ _ _ _ _ _ _ _ _ _ _ _ _ _ _ _ _ _ _ _ _ _ _ _ _ _ _ _ _ _ _ _ _ _ _ _ _ _ _ _ _ _ _ _ _ _ _ _ _ _ _ _ _ _ _ _ _ _ _ _ _ _ _ _ _ _ _ _ _ _ _ _ _ _ _ _ _ _ _ _ _ _ _ _ _ _ _ _ _ _ _ _ _ _ _ _ _ _ _ _ _ _ _ _ _ _ _ _ _ _ _ _ _ _ _ _ _ _ _ _ _ _ _ _ _ _ _ _ _ _ _ _ _ _ _ _ _ _ _ _ _ _ _ _ _ _ _ _ _ _ _ _ _ _ _ _ _ _ _ _ _ _ _ _ _ _ _ _ _ _ _ _ _ _ _ _ _ _ _ _ _ _ _ _ _ _ _ _ _ _ _ _ _ _ _ _ _ _ _ _ _ _ _ _ _ _ _ _ _ _ _ _ _ _ _ _ _ _ _ _ _ _ _ _ _ _ _ _ _ _ _ _ _ _ _ _ _ _ _ _ _ _ _ _ _ _ _ _ KP2.out (.inr ⟨a, r, HT.out, HAD.out, KA2.out, K42.out.tail (fun _ => rfl), (by have h := HKP5.out; rw [Int.sub_self] at h; exact h)⟩)
theorem sw_tr_mgleft {V U : World} {A E X ge m q3 j : Nat} {F : Nat → Prop} {b : Bs} {x1 x2 : Option Addr} {y1 y2 : Nat} {left : Int} {p : Option Addr} {n c : Nat} {e : Ev} {es : List Ev} (s : Sw V U A E X ge m j F b x1 x2 y1 y2 e es) {a : Ev} {y : Or} {r : List Or} (hol : n = (y :: r).length) (had : a.sd = 1 ∨ a.sd = 2) (hA : U.heap[A]? = some (.cells (ecs a).toArray 58 (0, 0))) (k4 : Sd U F p c (y :: r)) (ob : OrB y) (kd : e.kd = 3) (q0 : 0 ≤ left) (q1 : left < 4294967296) (i1 : e.id = a.id) (i2 : e.ot = y.id) (i3 : e.pr = y.pr) (i4 : e.sd = a.sd) (hty : a.ty = 2) (hlt : ¬ y.vi < left) (hqt : e.qt = left) (hv : y.vi - left ≠ 0) (kp : Pr a (left - left) (y.less left :: r) es) {cd : Code} (hc : (Try.f7.body.bind (blk 4)) = some cd) (u0 u1 u2 u3 u4 u5 u6 u7 u15 u16 u17 u18 u19 u20 u21 u22 u23 u24 u25 u26 u27 u28 u29 u30 u31 u32 u33 u34 u35 u36 u37 u38 u39 u40 u41 u42 u43 u44 u45 u46 u47 u48 u49 u50 u51 u52 u53 u54 u55 u57 u58 u59 u60 u61 u62 u63 u64 u65 u66 u67 u68 u69 u70 u71 u72 u73 u74 u75 u76 u77 u78 u79 u80 u81 u82 u83 u84 u85 u86 u87 u88 u89 u90 u91 u92 u93 u94 u95 u96 u97 u98 u99 u100 u101 u102 u103 u104 u105 u106 u107 u108 u109 u110 u111 u112 u113 u114 u115 u116 u117 u118 u119 u120 u121 u122 u123 u124 u125 u126 u127 u128 u129 u130 u131 u132 u133 u134 u135 u136 u137 u138 u139 u140 u141 u142 u143 u144 u145 u146 u147 u148 u149 u150 u151 u152 u153 u154 u155 u156 u157 u158 u159 u160 u161 u162 u163 u164 u165 u166 u167 u168 u169 u170 u171 u172 u173 u174 u175 u176 u177 u178 u179 u180 u181 u182 u183 u184 u185 u186 u187 u188 u189 u190 u191 u192 u193 u194 u195 u196 u197 u198 u199 u200 u201 u202 u203 u204 u205 u206 u207 u208 u209 u210 u211 u212 u213 u214 u215 u216 u217 u218 u219 u220 u221 u222 u223 u224 u225 u226 u227 u228 u229 u230 u231 u232 u233 u234 u235 u236 u237 u238 u239 u240 u241 u242 u243 u244 u245 u246 u247 u248 u249 u250 u251 u252 u253 u254 u255 u256 u257 u258 u259 u260 u261 u262 u263 u264 u265 u266 u267 u268 u269 u270 u271 u272 u273 u274 u275 u276 u277 u278 u279 u280 u281 u282 u283 u284 u285 u286 u287 u288 u289 u290 u291 u292 u293 u294 u295 u296 u297 u298 u299 u300 u301 u302 u303 u304 u305 u306 u307 u308 u309 u310 u311 u312 u313 u314 u315 u316 u317 u318 u319 : Value)
    {Q : Exit → Act → World → Prop} (hQ : ∀ (left2 : Int) (p2 : Option Addr) (n2 c2 : Nat) (U2 : World) (v15 v16 v57 v58 v59 v60 v61 v62 v63 v64 v65 v66 v67 v68 v69 v70 v71 v72 v73 v74 v75 v76 v77 v78 v79 v80 v81 v82 v83 v84 v85 v86 v87 v88 v89 v90 v91 v92 v93 v94 v95 v96 v97 v98 v99 v100 v101 v102 v103 v104 v105 v106 v107 v108 v109 v110 v111 v112 v113 v114 v115 v116 v117 v118 v119 v120 v121 v122 v123 v124 v125 v126 v127 v128 v129 v130 v131 v132 v133 v134 v135 v136 v137 v138 v139 v140 v141 v142 v143 v144 v145 v146 v147 v148 v149 v150 v151 v152 v153 v154 v155 v156 v157 v158 v159 v160 v161 v162 v163 v164 v165 v166 v167 v168 v169 v170 v171 v172 v173 v174 v175 v176 v177 v178 v179 v180 v181 v182 v183 v184 v185 v186 v187 v188 v189 v190 v191 v192 v193 v194 v195 v196 v197 v198 v199 v200 v201 v202 v203 v204 v205 v206 v207 v208 v209 v210 v211 v212 v213 v214 v215 v216 v217 v218 v219 v220 v221 v222 v223 v224 v225 v226 v227 v228 v229 v230 v231 v232 v233 v234 v235 v236 v237 v238 v239 v240 v241 v242 v243 v244 v245 v246 v247 v248 v249 v250 v251 v252 v253 v254 v255 v256 v257 v258 v259 v260 v261 v262 v263 v264 v265 v266 v267 v268 v269 v270 v271 v272 v273 v274 v275 v276 v277 v278 v279 v280 v281 v282 v283 v284 v285 v286 v287 v288 v289 v290 v291 v292 v293 v294 v295 v296 v297 v298 v299 v300 v301 v302 v303 v304 v305 v306 v307 v308 v309 v310 v311 v312 v313 v314 v315 v316 v317 v318 v319 : Value), Kp (fun j => j = A ∨ F j) V U2 → Hl b A F (.slice x1 b.l1.length y1) (.slice x2 b.l2.length y2) U2 left2 p2 n2 c2 es → Q .normal { tmps := #[u0, u1, u2, u3, u4, u5, u6, u7, .pointer (some ⟨X, 0, none⟩), .slice (some ⟨ge, 0, none⟩) m q3, .pointer (some ⟨A, 0, none⟩), .int .u64 left2, .slice p2 n2 c2, .int .i64 (j : Int), .pointer (some ⟨E, 0, none⟩), v15, v16, u17, u18, u19, u20, u21, u22, u23, u24, u25, u26, u27, u28, u29, u30, u31, u32, u33, u34, u35, u36, u37, u38, u39, u40, u41, u42, u43, u44, u45, u46, u47, u48, u49, u50, u51, u52, u53, u54, u55, .int .i64 e.kd, v57, v58, v59, v60, v61, v62, v63, v64, v65, v66, v67, v68, v69, v70, v71, v72, v73, v74, v75, v76, v77, v78, v79, v80, v81, v82, v83, v84, v85, v86, v87, v88, v89, v90, v91, v92, v93, v94, v95, v96, v97, v98, v99, v100, v101, v102, v103, v104, v105, v106, v107, v108, v109, v110, v111, v112, v113, v114, v115, v116, v117, v118, v119, v120, v121, v122, v123, v124, v125, v126, v127, v128, v129, v130, v131, v132, v133, v134, v135, v136, v137, v138, v139, v140, v141, v142, v143, v144, v145, v146, v147, v148, v149, v150, v151, v152, v153, v154, v155, v156, v157, v158, v159, v160, v161, v162, v163, v164, v165, v166, v167, v168, v169, v170, v171, v172, v173, v174, v175, v176, v177, v178, v179, v180, v181, v182, v183, v184, v185, v186, v187, v188, v189, v190, v191, v192, v193, v194, v195, v196, v197, v198, v199, v200, v201, v202, v203, v204, v205, v206, v207, v208, v209, v210, v211, v212, v213, v214, v215, v216, v217, v218, v219, v220, v221, v222, v223, v224, v225, v226, v227, v228, v229, v230, v231, v232, v233, v234, v235, v236, v237, v238, v239, v240, v241, v242, v243, v244, v245, v246, v247, v248, v249, v250, v251, v252, v253, v254, v255, v256, v257, v258, v259, v260, v261, v262, v263, v264, v265, v266, v267, v268, v269, v270, v271, v272, v273, v274, v275, v276, v277, v278, v279, v280, v281, v282, v283, v284, v285, v286, v287, v288, v289, v290, v291, v292, v293, v294, v295, v296, v297, v298, v299, v300, v301, v302, v303, v304, v305, v306, v307, v308, v309, v310, v311, v312, v313, v314, v315, v316, v317, v318, v319], defers := [] } U2) :
    cd.wp Try.prog Q { tmps := #[u0, u1, u2, u3, u4, u5, u6, u7, .pointer (some ⟨X, 0, none⟩), .slice (some ⟨ge, 0, none⟩) m q3, .pointer (some ⟨A, 0, none⟩), .int .u64 left, .slice p n c, .int .i64 (j : Int), .pointer (some ⟨E, 0, none⟩), u15, u16, u17, u18, u19, u20, u21, u22, u23, u24, u25, u26, u27, u28, u29, u30, u31, u32, u33, u34, u35, u36, u37, u38, u39, u40, u41, u42, u43, u44, u45, u46, u47, u48, u49, u50, u51, u52, u53, u54, u55, .int .i64 e.kd, u57, u58, u59, u60, u61, u62, u63, u64, u65, u66, u67, u68, u69, u70, u71, u72, u73, u74, u75, u76, u77, u78, u79, u80, u81, u82, u83, u84, u85, u86, u87, u88, u89, u90, u91, u92, u93, u94, u95, u96, u97, u98, u99, u100, u101, u102, u103, u104, u105, u106, u107, u108, u109, u110, u111, u112, u113, u114, u115, u116, u117, u118, u119, u120, u121, u122, u123, u124, u125, u126, u127, u128, u129, u130, u131, u132, u133, u134, u135, u136, u137, u138, u139, u140, u141, u142, u143, u144, u145, u146, u147, u148, u149, u150, u151, u152, u153, u154, u155, u156, u157, u158, u159, u160, u161, u162, u163, u164, u165, u166, u167, u168, u169, u170, u171, u172, u173, u174, u175, u176, u177, u178, u179, u180, u181, u182, u183, u184, u185, u186, u187, u188, u189, u190, u191, u192, u193, u194, u195, u196, u197, u198, u199, u200, u201, u202, u203, u204, u205, u206, u207, u208, u209, u210, u211, u212, u213, u214, u215, u216, u217, u218, u219, u220, u221, u222, u223, u224, u225, u226, u227, u228, u229, u230, u231, u232, u233, u234, u235, u236, u237, u238, u239, u240, u241, u242, u243, u244, u245, u246, u247, u248, u249, u250, u251, u252, u253, u254, u255, u256, u257, u258, u259, u260, u261, u262, u263, u264, u265, u266, u267, u268, u269, u270, u271, u272, u273, u274, u275, u276, u277, u278, u279, u280, u281, u282, u283, u284, u285, u286, u287, u288, u289, u290, u291, u292, u293, u294, u295, u296, u297, u298, u299, u300, u301, u302, u303, u304, u305, u306, u307, u308, u309, u310, u311, u312, u313, u314, u315, u316, u317, u318, u319], defers := [] } U := by
  simp only [Try.f7, blk, Option.bind, Option.or, Nat.reduceEqDiff, reduceCtorEq, if_false, if_true, reduceIte] at hc
  injection hc with hc
  subst hc
  have HQ := hid hQ
  clear hQ
  obtain ⟨e0, e1, e2, e3, e4, e5, e6, e7, e8, e9, e10, e11, e12⟩ := ev_row s.ex
  have hol' : n = r.length + 1 := hol
  have h0n : (0 : Int) < (n : Int) := by rw [hol']; exact Int.natCast_pos.2 (Nat.succ_pos _)
  have hnb : ((n : Int) == 0) = false := by rw [beq_eq_false_iff_ne]; exact Ne.symm (Int.ne_of_lt h0n)
  obtain ⟨g, off, cur, rfl, hFg, hrg, z0, z1, z2, z3, z4, z5, z6, fz⟩ := k4.head
  obtain ⟨a0, a1, a2, a3, a4, a5, a6, a7, a8, a9, a10, a11, a12⟩ := ev_row hA
  have K4 := hid k4
  have HFG := hid hFg
  have HRG := hid hrg
  have HOL := hid hol'
  have HOB := hid ob
  have HS := hid s
  have KA := hid hA
  clear k4 hFg hrg hol hol' ob s hA
  have HAD := hid had
  have HKP5 := hid kp
  rw [i1] at e2
  rw [i2] at e3
  rw [i3] at e8
  rw [i4] at e6
  rw [hqt] at e9
  rw [kd] at e1 HQ ⊢
  have I1 := hid i1
  have I3 := hid i3
  have I4 := hid i4
  have IQ := hid hqt
  have IK := hid kd
  have ITY := hid hty
  rw [hty] at a7
  clear hty
  have hlt' : decide (y.vi < left) = false := decide_eq_false hlt
  have HB := HOB.out
  obtain ⟨b1, b2, b3, b4⟩ := HB
  have hwl : IntKind.u64.wrap (left - left) = left - left := by rw [IntKind.wrap_u64]; omega
  have hwv : IntKind.u64.wrap (y.vi - left) = y.vi - left := by rw [IntKind.wrap_u64]; omega
  have n1 : (a.id != a.id) = false := by simp
  have n2 : (y.id != y.id) = false := by simp
  have n3 : (y.pr != y.pr) = false := by simp
  have n4 : (a.sd != a.sd) = false := by simp
  have n5 : (left != left) = false := by simp
  have HV := hid hv
  clear kp hqt i1 i2 i3 i4 kd had hv b1 b2 b3 b4 q0 q1 
  go_upto_region 23 with fail
  go_quiet (fail)
  obtain ⟨U1, hU1⟩ : ∃ U1, U.drewN nq = U1 := ⟨_, rfl⟩
  have hb1 : Below U.heap.size U U1 := by rw [← hU1]; exact bdrew _ _
  rw [hU1]
  have K41 := hid (K4.out.on hb1)
  have KA1 := hid (row_on KA.out hb1)
  have KE1 := hid (row_on HS.out.ex hb1)
  have KP1 := hid (HS.out.kp.trans (Kp.of (fun _ => False) hb1) (fun _ _ h => h.elim))
  have HB1 := hid hb1
  clear hU1 hb1 e0 e1 e2 e3 e4 e5 e6 e7 e8 e9 e10 e11 e12 a0 a1 a2 a3 a4 a5 a6 a7 a8 a9 a10 a11 a12 z0 z1 z2 z3 z4 z5 z6 fz
  obtain ⟨e0, e1, e2, e3, e4, e5, e6, e7, e8, e9, e10, e11, e12⟩ := ev_row KE1.out
  obtain ⟨a0, a1, a2, a3, a4, a5, a6, a7, a8, a9, a10, a11, a12⟩ := ev_row KA1.out
  obtain ⟨g', off', cur', hp', hx1, hx2, z0, z1, z2, z3, z4, z5, z6, fz⟩ := K41.out.head
  injection hp' with hp'
  injection hp' with h1 h2
  subst h1
  subst h2
  clear hx1 hx2
  rw [I3.out] at e8
  rw [IQ.out] at e9
  rw [I4.out] at e6
  rw [ITY.out] at a7
  go_upto_region 34 with fail
  obtain ⟨U2, hU2⟩ : ∃ U2, U1.setCell ⟨g, off + 4, none⟩ (.int .u64 (y.vi - left)) = U2 := ⟨_, rfl⟩
  have hk2 : Kp (fun j => j = g) U1 U2 := by rw [← hU2]; exact Kp.set _ _ _ _
  have K42 := hid (show Sd U2 F (some ⟨g, off, none⟩) c ({ y with vi := (y.vi - left) } :: r) from by rw [← hU2]; exact K41.out.set _)
  rw [hU2]
  have hgA : A ≠ g := Ne.symm (HS.out.fa g HFG.out)
  have KA2 := hid (hk2.row KA1.out hgA)
  have KP2 := hid (KP1.out.trans hk2 (fun j _ h => .inr (by rw [h]; exact HFG.out)))
  clear hU2 hk2 hgA e0 e1 e2 e3 e4 e5 e6 e7 e8 e9 e10 e11 e12 a0 a1 a2 a3 a4 a5 a6 a7 a8 a9 a10 a11 a12 z0 z1 z2 z3 z4 z5 z6 fz hwv hwl hlt' hlt n1 n2 n3 n4 n5
  obtain ⟨g', off', cur'', hp', hx1, hx2, z0, z1, z2, z3, z4, z5, z6, fz⟩ := K42.out.head
  injection hp' with hp'
  injection hp' with h1 h2
  subst h1
  subst h2
  simp only at z0 z1 z2 z3 z4 z5 z6
  clear hx1 hx2
  have hv0 : (y.vi - left == 0) = false := by rw [beq_eq_false_iff_ne]; exact HV.out
  go_wp2
  exact HQ.out 0 (some ⟨g, off, none⟩) n c U2 _ _ _ _ _ _ _ _ _ _ _ _ _ _ _ _ _ _ _ _ _ _ _ _ _ _ _ _ _ _ _ _ _ _ _ _ _ _ _ _ _ _ _ _ _ _ _ _ _ _ _ _ _ _ _ _ _ _ _ _ _ _ _ _ _ _ _ _ _ _ _ _ _ _ _ _ _ _ _ _ _ _ _ _ _ _ _ _ _ _ _ _ _ _ _ _ _ _ _ _ _ _ _ _ _ _ _ _ _ _ _ _ _ _ _ _ _ _ _ _ _ _ _ _ _ _ _ _ _ _ _ _ _ _ _ _ _ _ _ _ _ _ _ _ _ _ _ _ _ _ _ _ _ _ _ _ _ _ _ _ _ _ _ _ _ _ _ _ _ _ _ _ _ _ _ _ _ _ _ _ _ _ _ _ _ _ _ _ _ _ _ _ _ _ _ _ _ _ _ _ _ _ _ _ _ _ _ _ _ _ _ _ _ _ _ _ _ _ _ _ _ _ _ _ _ _ _ _ _ _ _ _ _ _ _ _ _ _ _ _ _ _ _ _ _ _ _ _ _ _ _ _ _ _ _ _ _ _ _ _ _ _ _ _ _ KP2.out (.inr ⟨a, y.less left :: r, HOL.out, HAD.out, KA2.out, K42.out, (by have h := HKP5.out; rw [Int.sub_self] at h; exact h)⟩)
theorem sw_tr_mgempty {V U : World} {A E X ge m q3 j : Nat} {F : Nat → Prop} {b : Bs} {x1 x2 : Option Addr} {y1 y2 : Nat} {left : Int} {p : Option Addr} {n c : Nat} {e : Ev} {es : List Ev} (s : Sw V U A E X ge m j F b x1 x2 y1 y2 e es) {a : Ev} {y : Or} {r : List Or} (hol : n = (y :: r).length) (had : a.sd = 1 ∨ a.sd = 2) (hA : U.heap[A]? = some (.cells (ecs a).toArray 58 (0, 0))) (k4 : Sd U F p c (y :: r)) (ob : OrB y) (kd : e.kd = 3) (q0 : 0 ≤ left) (q1 : left < 4294967296) (i1 : e.id = a.id) (i2 : e.ot = y.id) (i3 : e.pr = y.pr) (i4 : e.sd = a.sd) (hty : a.ty = 2) (hlt : ¬ y.vi < left) (hqt : e.qt = left) (hv : y.vi - left = 0) (hh : y.hi ≠ 0) (hn5 : ∃ e' es', es = e' :: es' ∧ e'.kd = 5) (kp : Pr a (left - left) (y.less left :: r) es) {cd : Code} (hc : (Try.f7.body.bind (blk 4)) = some cd) (u0 u1 u2 u3 u4 u5 u6 u7 u15 u16 u17 u18 u19 u20 u21 u22 u23 u24 u25 u26 u27 u28 u29 u30 u31 u32 u33 u34 u35 u36 u37 u38 u39 u40 u41 u42 u43 u44 u45 u46 u47 u48 u49 u50 u51 u52 u53 u54 u55 u57 u58 u59 u60 u61 u62 u63 u64 u65 u66 u67 u68 u69 u70 u71 u72 u73 u74 u75 u76 u77 u78 u79 u80 u81 u82 u83 u84 u85 u86 u87 u88 u89 u90 u91 u92 u93 u94 u95 u96 u97 u98 u99 u100 u101 u102 u103 u104 u105 u106 u107 u108 u109 u110 u111 u112 u113 u114 u115 u116 u117 u118 u119 u120 u121 u122 u123 u124 u125 u126 u127 u128 u129 u130 u131 u132 u133 u134 u135 u136 u137 u138 u139 u140 u141 u142 u143 u144 u145 u146 u147 u148 u149 u150 u151 u152 u153 u154 u155 u156 u157 u158 u159 u160 u161 u162 u163 u164 u165 u166 u167 u168 u169 u170 u171 u172 u173 u174 u175 u176 u177 u178 u179 u180 u181 u182 u183 u184 u185 u186 u187 u188 u189 u190 u191 u192 u193 u194 u195 u196 u197 u198 u199 u200 u201 u202 u203 u204 u205 u206 u207 u208 u209 u210 u211 u212 u213 u214 u215 u216 u217 u218 u219 u220 u221 u222 u223 u224 u225 u226 u227 u228 u229 u230 u231 u232 u233 u234 u235 u236 u237 u238 u239 u240 u241 u242 u243 u244 u245 u246 u247 u248 u249 u250 u251 u252 u253 u254 u255 u256 u257 u258 u259 u260 u261 u262 u263 u264 u265 u266 u267 u268 u269 u270 u271 u272 u273 u274 u275 u276 u277 u278 u279 u280 u281 u282 u283 u284 u285 u286 u287 u288 u289 u290 u291 u292 u293 u294 u295 u296 u297 u298 u299 u300 u301 u302 u303 u304 u305 u306 u307 u308 u309 u310 u311 u312 u313 u314 u315 u316 u317 u318 u319 : Value)
    {Q : Exit → Act → World → Prop} (hQ : ∀ (left2 : Int) (p2 : Option Addr) (n2 c2 : Nat) (U2 : World) (v15 v16 v57 v58 v59 v60 v61 v62 v63 v64 v65 v66 v67 v68 v69 v70 v71 v72 v73 v74 v75 v76 v77 v78 v79 v80 v81 v82 v83 v84 v85 v86 v87 v88 v89 v90 v91 v92 v93 v94 v95 v96 v97 v98 v99 v100 v101 v102 v103 v104 v105 v106 v107 v108 v109 v110 v111 v112 v113 v114 v115 v116 v117 v118 v119 v120 v121 v122 v123 v124 v125 v126 v127 v128 v129 v130 v131 v132 v133 v134 v135 v136 v137 v138 v139 v140 v141 v142 v143 v144 v145 v146 v147 v148 v149 v150 v151 v152 v153 v154 v155 v156 v157 v158 v159 v160 v161 v162 v163 v164 v165 v166 v167 v168 v169 v170 v171 v172 v173 v174 v175 v176 v177 v178 v179 v180 v181 v182 v183 v184 v185 v186 v187 v188 v189 v190 v191 v192 v193 v194 v195 v196 v197 v198 v199 v200 v201 v202 v203 v204 v205 v206 v207 v208 v209 v210 v211 v212 v213 v214 v215 v216 v217 v218 v219 v220 v221 v222 v223 v224 v225 v226 v227 v228 v229 v230 v231 v232 v233 v234 v235 v236 v237 v238 v239 v240 v241 v242 v243 v244 v245 v246 v247 v248 v249 v250 v251 v252 v253 v254 v255 v256 v257 v258 v259 v260 v261 v262 v263 v264 v265 v266 v267 v268 v269 v270 v271 v272 v273 v274 v275 v276 v277 v278 v279 v280 v281 v282 v283 v284 v285 v286 v287 v288 v289 v290 v291 v292 v293 v294 v295 v296 v297 v298 v299 v300 v301 v302 v303 v304 v305 v306 v307 v308 v309 v310 v311 v312 v313 v314 v315 v316 v317 v318 v319 : Value), Kp (fun j => j = A ∨ F j) V U2 → Hl b A F (.slice x1 b.l1.length y1) (.slice x2 b.l2.length y2) U2 left2 p2 n2 c2 es → Q .normal { tmps := #[u0, u1, u2, u3, u4, u5, u6, u7, .pointer (some ⟨X, 0, none⟩), .slice (some ⟨ge, 0, none⟩) m q3, .pointer (some ⟨A, 0, none⟩), .int .u64 left2, .slice p2 n2 c2, .int .i64 (j : Int), .pointer (some ⟨E, 0, none⟩), v15, v16, u17, u18, u19, u20, u21, u22, u23, u24, u25, u26, u27, u28, u29, u30, u31, u32, u33, u34, u35, u36, u37, u38, u39, u40, u41, u42, u43, u44, u45, u46, u47, u48, u49, u50, u51, u52, u53, u54, u55, .int .i64 e.kd, v57, v58, v59, v60, v61, v62, v63, v64, v65, v66, v67, v68, v69, v70, v71, v72, v73, v74, v75, v76, v77, v78, v79, v80, v81, v82, v83, v84, v85, v86, v87, v88, v89, v90, v91, v92, v93, v94, v95, v96, v97, v98, v99, v100, v101, v102, v103, v104, v105, v106, v107, v108, v109, v110, v111, v112, v113, v114, v115, v116, v117, v118, v119, v120, v121, v122, v123, v124, v125, v126, v127, v128, v129, v130, v131, v132, v133, v134, v135, v136, v137, v138, v139, v140, v141, v142, v143, v144, v145, v146, v147, v148, v149, v150, v151, v152, v153, v154, v155, v156, v157, v158, v159, v160, v161, v162, v163, v164, v165, v166, v167, v168, v169, v170, v171, v172, v173, v174, v175, v176, v177, v178, v179, v180, v181, v182, v183, v184, v185, v186, v187, v188, v189, v190, v191, v192, v193, v194, v195, v196, v197, v198, v199, v200, v201, v202, v203, v204, v205, v206, v207, v208, v209, v210, v211, v212, v213, v214, v215, v216, v217, v218, v219, v220, v221, v222, v223, v224, v225, v226, v227, v228, v229, v230, v231, v232, v233, v234, v235, v236, v237, v238, v239, v240, v241, v242, v243, v244, v245, v246, v247, v248, v249, v250, v251, v252, v253, v254, v255, v256, v257, v258, v259, v260, v261, v262, v263, v264, v265, v266, v267, v268, v269, v270, v271, v272, v273, v274, v275, v276, v277, v278, v279, v280, v281, v282, v283, v284, v285, v286, v287, v288, v289, v290, v291, v292, v293, v294, v295, v296, v297, v298, v299, v300, v301, v302, v303, v304, v305, v306, v307, v308, v309, v310, v311, v312, v313, v314, v315, v316, v317, v318, v319], defers := [] } U2) :
    cd.wp Try.prog Q { tmps := #[u0, u1, u2, u3, u4, u5, u6, u7, .pointer (some ⟨X, 0, none⟩), .slice (some ⟨ge, 0, none⟩) m q3, .pointer (some ⟨A, 0, none⟩), .int .u64 left, .slice p n c, .int .i64 (j : Int), .pointer (some ⟨E, 0, none⟩), u15, u16, u17, u18, u19, u20, u21, u22, u23, u24, u25, u26, u27, u28, u29, u30, u31, u32, u33, u34, u35, u36, u37, u38, u39, u40, u41, u42, u43, u44, u45, u46, u47, u48, u49, u50, u51, u52, u53, u54, u55, .int .i64 e.kd, u57, u58, u59, u60, u61, u62, u63, u64, u65, u66, u67, u68, u69, u70, u71, u72, u73, u74, u75, u76, u77, u78, u79, u80, u81, u82, u83, u84, u85, u86, u87, u88, u89, u90, u91, u92, u93, u94, u95, u96, u97, u98, u99, u100, u101, u102, u103, u104, u105, u106, u107, u108, u109, u110, u111, u112, u113, u114, u115, u116, u117, u118, u119, u120, u121, u122, u123, u124, u125, u126, u127, u128, u129, u130, u131, u132, u133, u134, u135, u136, u137, u138, u139, u140, u141, u142, u143, u144, u145, u146, u147, u148, u149, u150, u151, u152, u153, u154, u155, u156, u157, u158, u159, u160, u161, u162, u163, u164, u165, u166, u167, u168, u169, u170, u171, u172, u173, u174, u175, u176, u177, u178, u179, u180, u181, u182, u183, u184, u185, u186, u187, u188, u189, u190, u191, u192, u193, u194, u195, u196, u197, u198, u199, u200, u201, u202, u203, u204, u205, u206, u207, u208, u209, u210, u211, u212, u213, u214, u215, u216, u217, u218, u219, u220, u221, u222, u223, u224, u225, u226, u227, u228, u229, u230, u231, u232, u233, u234, u235, u236, u237, u238, u239, u240, u241, u242, u243, u244, u245, u246, u247, u248, u249, u250, u251, u252, u253, u254, u255, u256, u257, u258, u259, u260, u261, u262, u263, u264, u265, u266, u267, u268, u269, u270, u271, u272, u273, u274, u275, u276, u277, u278, u279, u280, u281, u282, u283, u284, u285, u286, u287, u288, u289, u290, u291, u292, u293, u294, u295, u296, u297, u298, u299, u300, u301, u302, u303, u304, u305, u306, u307, u308, u309, u310, u311, u312, u313, u314, u315, u316, u317, u318, u319], defers := [] } U := by
  simp only [Try.f7, blk, Option.bind, Option.or, Nat.reduceEqDiff, reduceCtorEq, if_false, if_true, reduceIte] at hc
  injection hc with hc
  subst hc
  have HQ := hid hQ
  clear hQ
  obtain ⟨e0, e1, e2, e3, e4, e5, e6, e7, e8, e9, e10, e11, e12⟩ := ev_row s.ex
  have hol' : n = r.length + 1 := hol
  have h0n : (0 : Int) < (n : Int) := by rw [hol']; exact Int.natCast_pos.2 (Nat.succ_pos _)
  have hnb : ((n : Int) == 0) = false := by rw [beq_eq_false_iff_ne]; exact Ne.symm (Int.ne_of_lt h0n)
  obtain ⟨g, off, cur, rfl, hFg, hrg, z0, z1, z2, z3, z4, z5, z6, fz⟩ := k4.head
  obtain ⟨a0, a1, a2, a3, a4, a5, a6, a7, a8, a9, a10, a11, a12⟩ := ev_row hA
  have K4 := hid k4
  have HFG := hid hFg
  have HRG := hid hrg
  have HOL := hid hol'
  have HOB := hid ob
  have HS := hid s
  have KA := hid hA
  clear k4 hFg hrg hol hol' ob s hA
  have HAD := hid had
  have HKP5 := hid kp
  rw [i1] at e2
  rw [i2] at e3
  rw [i3] at e8
  rw [i4] at e6
  rw [hqt] at e9
  rw [kd] at e1 HQ ⊢
  have I1 := hid i1
  have I3 := hid i3
  have I4 := hid i4
  have IQ := hid hqt
  have IK := hid kd
  have ITY := hid hty
  rw [hty] at a7
  clear hty
  have hlt' : decide (y.vi < left) = false := decide_eq_false hlt
  have HB := HOB.out
  obtain ⟨b1, b2, b3, b4⟩ := HB
  have hwl : IntKind.u64.wrap (left - left) = left - left := by rw [IntKind.wrap_u64]; omega
  have hwv : IntKind.u64.wrap (y.vi - left) = y.vi - left := by rw [IntKind.wrap_u64]; omega
  have n1 : (a.id != a.id) = false := by simp
  have n2 : (y.id != y.id) = false := by simp
  have n3 : (y.pr != y.pr) = false := by simp
  have n4 : (a.sd != a.sd) = false := by simp
  have n5 : (left != left) = false := by simp
  have HV := hid hv
  have HH := hid hh
  have HN5 := hid hn5
  clear kp hqt i1 i2 i3 i4 kd had hv b1 b2 b3 b4 q0 q1 hh hn5
  go_upto_region 23 with fail
  go_quiet (fail)
  obtain ⟨U1, hU1⟩ : ∃ U1, U.drewN nq = U1 := ⟨_, rfl⟩
  have hb1 : Below U.heap.size U U1 := by rw [← hU1]; exact bdrew _ _
  rw [hU1]
  have K41 := hid (K4.out.on hb1)
  have KA1 := hid (row_on KA.out hb1)
  have KE1 := hid (row_on HS.out.ex hb1)
  have KP1 := hid (HS.out.kp.trans (Kp.of (fun _ => False) hb1) (fun _ _ h => h.elim))
  have HB1 := hid hb1
  clear hU1 hb1 e0 e1 e2 e3 e4 e5 e6 e7 e8 e9 e10 e11 e12 a0 a1 a2 a3 a4 a5 a6 a7 a8 a9 a10 a11 a12 z0 z1 z2 z3 z4 z5 z6 fz
  obtain ⟨e0, e1, e2, e3, e4, e5, e6, e7, e8, e9, e10, e11, e12⟩ := ev_row KE1.out
  obtain ⟨a0, a1, a2, a3, a4, a5, a6, a7, a8, a9, a10, a11, a12⟩ := ev_row KA1.out
  obtain ⟨g', off', cur', hp', hx1, hx2, z0, z1, z2, z3, z4, z5, z6, fz⟩ := K41.out.head
  injection hp' with hp'
  injection hp' with h1 h2
  subst h1
  subst h2
  clear hx1 hx2
  rw [I3.out] at e8
  rw [IQ.out] at e9
  rw [I4.out] at e6
  rw [ITY.out] at a7
  go_upto_region 34 with fail
  obtain ⟨U2, hU2⟩ : ∃ U2, U1.setCell ⟨g, off + 4, none⟩ (.int .u64 (y.vi - left)) = U2 := ⟨_, rfl⟩
  have hk2 : Kp (fun j => j = g) U1 U2 := by rw [← hU2]; exact Kp.set _ _ _ _
  have K42 := hid (show Sd U2 F (some ⟨g, off, none⟩) c ({ y with vi := (y.vi - left) } :: r) from by rw [← hU2]; exact K41.out.set _)
  rw [hU2]
  have hgA : A ≠ g := Ne.symm (HS.out.fa g HFG.out)
  have KA2 := hid (hk2.row KA1.out hgA)
  have KP2 := hid (KP1.out.trans hk2 (fun j _ h => .inr (by rw [h]; exact HFG.out)))
  have HNX := hid (show j + 1 < m ∧ U2.cell? ⟨ge, (j + 1) * 13 + 1, none⟩ = some (.int .i64 5) from by
    obtain ⟨e', es', h1, h2⟩ := HN5.out
    obtain ⟨h3, h4⟩ := HS.out.nx e' es' h1
    obtain ⟨cur2, h5⟩ := HS.out.gr
    have h6 := row_on h5 HB1.out
    have hne : ge ≠ g := row_ne h5 HRG.out (by decide)
    have h7 := hk2.row h6 hne
    refine ⟨h3, ?_⟩
    rw [row_cell h5] at h4
    rw [row_cell h7, h4, h2])
  clear hU2 hk2 hgA e0 e1 e2 e3 e4 e5 e6 e7 e8 e9 e10 e11 e12 a0 a1 a2 a3 a4 a5 a6 a7 a8 a9 a10 a11 a12 z0 z1 z2 z3 z4 z5 z6 fz hwv hwl hlt' hlt n1 n2 n3 n4 n5
  obtain ⟨g', off', cur'', hp', hx1, hx2, z0, z1, z2, z3, z4, z5, z6, fz⟩ := K42.out.head
  injection hp' with hp'
  injection hp' with h1 h2
  subst h1
  subst h2
  simp only at z0 z1 z2 z3 z4 z5 z6
  clear hx1 hx2
  have hv0 : (y.vi - left == 0) = true := by rw [HV.out]; rfl
  have hh0 : (y.hi == 0) = false := by rw [beq_eq_false_iff_ne]; exact HH.out
  obtain ⟨hj1, hjc⟩ := HNX.out
  have hm := HS.out.mx
  have hj2 : ((j : Int) + 1 == (m : Int)) = false := by rw [beq_eq_false_iff_ne]; omega
  have hj3 : (j : Int) + 1 < (m : Int) := by omega
  have hj4 : (0 : Int) ≤ (j : Int) + 1 := by omega
  have hj5 : ((j : Int) + 1).toNat = j + 1 := by omega
  have hj6 : IntKind.i64.wrap ((j : Int) + 1) = (j : Int) + 1 := by simp [IntKind.wrap, IntKind.bits, IntKind.signed]; omega
  clear hj1 hm
  go_wp2
  exact HQ.out 0 (some ⟨g, off, none⟩) n c U2 _ _ _ _ _ _ _ _ _ _ _ _ _ _ _ _ _ _ _ _ _ _ _ _ _ _ _ _ _ _ _ _ _ _ _ _ _ _ _ _ _ _ _ _ _ _ _ _ _ _ _ _ _ _ _ _ _ _ _ _ _ _ _ _ _ _ _ _ _ _ _ _ _ _ _ _ _ _ _ _ _ _ _ _ _ _ _ _ _ _ _ _ _ _ _ _ _ _ _ _ _ _ _ _ _ _ _ _ _ _ _ _ _ _ _ _ _ _ _ _ _ _ _ _ _ _ _ _ _ _ _ _ _ _ _ _ _ _ _ _ _ _ _ _ _ _ _ _ _ _ _ _ _ _ _ _ _ _ _ _ _ _ _ _ _ _ _ _ _ _ _ _ _ _ _ _ _ _ _ _ _ _ _ _ _ _ _ _ _ _ _ _ _ _ _ _ _ _ _ _ _ _ _ _ _ _ _ _ _ _ _ _ _ _ _ _ _ _ _ _ _ _ _ _ _ _ _ _ _ _ _ _ _ _ _ _ _ _ _ _ _ _ _ _ _ _ _ _ _ _ _ _ _ _ _ _ _ _ _ _ _ _ _ _ _ KP2.out (.inr ⟨a, y.less left :: r, HOL.out, HAD.out, KA2.out, K42.out, (by have h := HKP5.out; rw [Int.sub_self] at h; exact h)⟩)
end Go.Proofs.Ytalgndgoedlpoaa
