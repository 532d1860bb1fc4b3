/-
  The law takes an ack. Written by mksw.py.
-/
import Derived.Test.YtalgndgoedlpoaaRuPh
namespace Go.Proofs.Ytalgndgoedlpoaa
section
open Go.RowKit Go.Deep Go.Shelf
set_option linter.unusedVariables false
set_option linter.unusedSimpArgs false
set_option maxHeartbeats 8000000
set_option maxRecDepth 100000
attribute [local go_sem ↓] Go.wp_at_zero Go.wp_at_succ
theorem st13 {U : World} {A : Nat} (hA : U.heap[A]? = some (.cells (ecs ez).toArray 58 (0, 0))) (v0 v1 v2 v3 v4 v5 v6 v7 v8 v9 v10 v11 v12 : Value) : (((((((((((((U.setCell ⟨A, 0, none⟩ v0).setCell ⟨A, 1, none⟩ v1).setCell ⟨A, 2, none⟩ v2).setCell ⟨A, 3, none⟩ v3).setCell ⟨A, 4, none⟩ v4).setCell ⟨A, 5, none⟩ v5).setCell ⟨A, 6, none⟩ v6).setCell ⟨A, 7, none⟩ v7).setCell ⟨A, 8, none⟩ v8).setCell ⟨A, 9, none⟩ v9).setCell ⟨A, 10, none⟩ v10).setCell ⟨A, 11, none⟩ v11).setCell ⟨A, 12, none⟩ v12).heap[A]? = some (.cells #[v0, v1, v2, v3, v4, v5, v6, v7, v8, v9, v10, v11, v12] 58 (0, 0)) := by
  have h0 := set_row (k := 0) v0 hA
  have h1 := set_row (k := 1) v1 h0
  have h2 := set_row (k := 2) v2 h1
  have h3 := set_row (k := 3) v3 h2
  have h4 := set_row (k := 4) v4 h3
  have h5 := set_row (k := 5) v5 h4
  have h6 := set_row (k := 6) v6 h5
  have h7 := set_row (k := 7) v7 h6
  have h8 := set_row (k := 8) v8 h7
  have h9 := set_row (k := 9) v9 h8
  have h10 := set_row (k := 10) v10 h9
  have h11 := set_row (k := 11) v11 h10
  have h12 := set_row (k := 12) v12 h11
  simpa [ecs] using h12
theorem kp13 (U : World) (A : Nat) (v0 v1 v2 v3 v4 v5 v6 v7 v8 v9 v10 v11 v12 : Value) : Kp (fun j => j = A) U (((((((((((((U.setCell ⟨A, 0, none⟩ v0).setCell ⟨A, 1, none⟩ v1).setCell ⟨A, 2, none⟩ v2).setCell ⟨A, 3, none⟩ v3).setCell ⟨A, 4, none⟩ v4).setCell ⟨A, 5, none⟩ v5).setCell ⟨A, 6, none⟩ v6).setCell ⟨A, 7, none⟩ v7).setCell ⟨A, 8, none⟩ v8).setCell ⟨A, 9, none⟩ v9).setCell ⟨A, 10, none⟩ v10).setCell ⟨A, 11, none⟩ v11).setCell ⟨A, 12, none⟩ v12) := ((((((((((((Kp.set U A 0 v0).trans (Kp.set _ A 1 v1) (fun _ _ h => h)).trans (Kp.set _ A 2 v2) (fun _ _ h => h)).trans (Kp.set _ A 3 v3) (fun _ _ h => h)).trans (Kp.set _ A 4 v4) (fun _ _ h => h)).trans (Kp.set _ A 5 v5) (fun _ _ h => h)).trans (Kp.set _ A 6 v6) (fun _ _ h => h)).trans (Kp.set _ A 7 v7) (fun _ _ h => h)).trans (Kp.set _ A 8 v8) (fun _ _ h => h)).trans (Kp.set _ A 9 v9) (fun _ _ h => h)).trans (Kp.set _ A 10 v10) (fun _ _ h => h)).trans (Kp.set _ A 11 v11) (fun _ _ h => h)).trans (Kp.set _ A 12 v12) (fun _ _ h => h)
theorem sw_ack {V U : World} {A E X ge m q3 j : Nat} {F : Nat → Prop} {b : Bs} {x1 x2 : Option Addr} {y1 y2 : Nat} {left : Int} {p : Option Addr} {n c : Nat} {e : Ev} {es : List Ev} (s : Sw V U A E X ge m j F b x1 x2 y1 y2 e es) (k1 : U.ownsRow 0 50 7 (.slice x1 b.l1.length y1) b.l1.length (ors (osl b.l1))) (k2 : U.ownsRow 0 50 7 (.slice x2 b.l2.length y2) b.l2.length (ors (osl b.l2))) (hA : U.heap[A]? = some (.cells (ecs ez).toArray 58 (0, 0))) (kd : e.kd = 1) (ksd : e.sd = 1 ∨ e.sd = 2) (kp : Pr e e.qt (osl (b.sl (oth e.sd))) es) {cd : Code} (hc : (Try.f7.body.bind (blk 4)) = some cd) (u0 u1 u2 u3 u4 u5 u6 u7 u15 u16 u17 u18 u19 u20 u21 u22 u23 u24 u25 u26 u27 u28 u29 u30 u31 u32 u33 u34 u35 u36 u37 u38 u39 u40 u41 u42 u43 u44 u45 u46 u47 u48 u49 u50 u51 u52 u53 u54 u55 u57 u58 u59 u60 u61 u62 u63 u64 u65 u66 u67 u68 u69 u70 u71 u72 u73 u74 u75 u76 u77 u78 u79 u80 u81 u82 u83 u84 u85 u86 u87 u88 u89 u90 u91 u92 u93 u94 u95 u96 u97 u98 u99 u100 u101 u102 u103 u104 u105 u106 u107 u108 u109 u110 u111 u112 u113 u114 u115 u116 u117 u118 u119 u120 u121 u122 u123 u124 u125 u126 u127 u128 u129 u130 u131 u132 u133 u134 u135 u136 u137 u138 u139 u140 u141 u142 u143 u144 u145 u146 u147 u148 u149 u150 u151 u152 u153 u154 u155 u156 u157 u158 u159 u160 u161 u162 u163 u164 u165 u166 u167 u168 u169 u170 u171 u172 u173 u174 u175 u176 u177 u178 u179 u180 u181 u182 u183 u184 u185 u186 u187 u188 u189 u190 u191 u192 u193 u194 u195 u196 u197 u198 u199 u200 u201 u202 u203 u204 u205 u206 u207 u208 u209 u210 u211 u212 u213 u214 u215 u216 u217 u218 u219 u220 u221 u222 u223 u224 u225 u226 u227 u228 u229 u230 u231 u232 u233 u234 u235 u236 u237 u238 u239 u240 u241 u242 u243 u244 u245 u246 u247 u248 u249 u250 u251 u252 u253 u254 u255 u256 u257 u258 u259 u260 u261 u262 u263 u264 u265 u266 u267 u268 u269 u270 u271 u272 u273 u274 u275 u276 u277 u278 u279 u280 u281 u282 u283 u284 u285 u286 u287 u288 u289 u290 u291 u292 u293 u294 u295 u296 u297 u298 u299 u300 u301 u302 u303 u304 u305 u306 u307 u308 u309 u310 u311 u312 u313 u314 u315 u316 u317 u318 u319 : Value)
    {Q : Exit → Act → World → Prop} (hQ : ∀ (left2 : Int) (p2 : Option Addr) (n2 c2 : Nat) (U2 : World) (v15 v16 v57 v58 v59 v60 v61 v62 v63 v64 v65 v66 v67 v68 v69 v70 v71 v72 v73 v74 v75 v76 v77 v78 v79 v80 v81 v82 v83 v84 v85 v86 v87 v88 v89 v90 v91 v92 v93 v94 v95 v96 v97 v98 v99 v100 v101 v102 v103 v104 v105 v106 v107 v108 v109 v110 v111 v112 v113 v114 v115 v116 v117 v118 v119 v120 v121 v122 v123 v124 v125 v126 v127 v128 v129 v130 v131 v132 v133 v134 v135 v136 v137 v138 v139 v140 v141 v142 v143 v144 v145 v146 v147 v148 v149 v150 v151 v152 v153 v154 v155 v156 v157 v158 v159 v160 v161 v162 v163 v164 v165 v166 v167 v168 v169 v170 v171 v172 v173 v174 v175 v176 v177 v178 v179 v180 v181 v182 v183 v184 v185 v186 v187 v188 v189 v190 v191 v192 v193 v194 v195 v196 v197 v198 v199 v200 v201 v202 v203 v204 v205 v206 v207 v208 v209 v210 v211 v212 v213 v214 v215 v216 v217 v218 v219 v220 v221 v222 v223 v224 v225 v226 v227 v228 v229 v230 v231 v232 v233 v234 v235 v236 v237 v238 v239 v240 v241 v242 v243 v244 v245 v246 v247 v248 v249 v250 v251 v252 v253 v254 v255 v256 v257 v258 v259 v260 v261 v262 v263 v264 v265 v266 v267 v268 v269 v270 v271 v272 v273 v274 v275 v276 v277 v278 v279 v280 v281 v282 v283 v284 v285 v286 v287 v288 v289 v290 v291 v292 v293 v294 v295 v296 v297 v298 v299 v300 v301 v302 v303 v304 v305 v306 v307 v308 v309 v310 v311 v312 v313 v314 v315 v316 v317 v318 v319 : Value), Kp (fun j => j = A ∨ F j) V U2 → Hl b A F (.slice x1 b.l1.length y1) (.slice x2 b.l2.length y2) U2 left2 p2 n2 c2 es → Q .normal { tmps := #[u0, u1, u2, u3, u4, u5, u6, u7, .pointer (some ⟨X, 0, none⟩), .slice (some ⟨ge, 0, none⟩) m q3, .pointer (some ⟨A, 0, none⟩), .int .u64 left2, .slice p2 n2 c2, .int .i64 (j : Int), .pointer (some ⟨E, 0, none⟩), v15, v16, u17, u18, u19, u20, u21, u22, u23, u24, u25, u26, u27, u28, u29, u30, u31, u32, u33, u34, u35, u36, u37, u38, u39, u40, u41, u42, u43, u44, u45, u46, u47, u48, u49, u50, u51, u52, u53, u54, u55, .int .i64 e.kd, v57, v58, v59, v60, v61, v62, v63, v64, v65, v66, v67, v68, v69, v70, v71, v72, v73, v74, v75, v76, v77, v78, v79, v80, v81, v82, v83, v84, v85, v86, v87, v88, v89, v90, v91, v92, v93, v94, v95, v96, v97, v98, v99, v100, v101, v102, v103, v104, v105, v106, v107, v108, v109, v110, v111, v112, v113, v114, v115, v116, v117, v118, v119, v120, v121, v122, v123, v124, v125, v126, v127, v128, v129, v130, v131, v132, v133, v134, v135, v136, v137, v138, v139, v140, v141, v142, v143, v144, v145, v146, v147, v148, v149, v150, v151, v152, v153, v154, v155, v156, v157, v158, v159, v160, v161, v162, v163, v164, v165, v166, v167, v168, v169, v170, v171, v172, v173, v174, v175, v176, v177, v178, v179, v180, v181, v182, v183, v184, v185, v186, v187, v188, v189, v190, v191, v192, v193, v194, v195, v196, v197, v198, v199, v200, v201, v202, v203, v204, v205, v206, v207, v208, v209, v210, v211, v212, v213, v214, v215, v216, v217, v218, v219, v220, v221, v222, v223, v224, v225, v226, v227, v228, v229, v230, v231, v232, v233, v234, v235, v236, v237, v238, v239, v240, v241, v242, v243, v244, v245, v246, v247, v248, v249, v250, v251, v252, v253, v254, v255, v256, v257, v258, v259, v260, v261, v262, v263, v264, v265, v266, v267, v268, v269, v270, v271, v272, v273, v274, v275, v276, v277, v278, v279, v280, v281, v282, v283, v284, v285, v286, v287, v288, v289, v290, v291, v292, v293, v294, v295, v296, v297, v298, v299, v300, v301, v302, v303, v304, v305, v306, v307, v308, v309, v310, v311, v312, v313, v314, v315, v316, v317, v318, v319], defers := [] } U2) :
    cd.wp Try.prog Q { tmps := #[u0, u1, u2, u3, u4, u5, u6, u7, .pointer (some ⟨X, 0, none⟩), .slice (some ⟨ge, 0, none⟩) m q3, .pointer (some ⟨A, 0, none⟩), .int .u64 left, .slice p n c, .int .i64 (j : Int), .pointer (some ⟨E, 0, none⟩), u15, u16, u17, u18, u19, u20, u21, u22, u23, u24, u25, u26, u27, u28, u29, u30, u31, u32, u33, u34, u35, u36, u37, u38, u39, u40, u41, u42, u43, u44, u45, u46, u47, u48, u49, u50, u51, u52, u53, u54, u55, .int .i64 e.kd, u57, u58, u59, u60, u61, u62, u63, u64, u65, u66, u67, u68, u69, u70, u71, u72, u73, u74, u75, u76, u77, u78, u79, u80, u81, u82, u83, u84, u85, u86, u87, u88, u89, u90, u91, u92, u93, u94, u95, u96, u97, u98, u99, u100, u101, u102, u103, u104, u105, u106, u107, u108, u109, u110, u111, u112, u113, u114, u115, u116, u117, u118, u119, u120, u121, u122, u123, u124, u125, u126, u127, u128, u129, u130, u131, u132, u133, u134, u135, u136, u137, u138, u139, u140, u141, u142, u143, u144, u145, u146, u147, u148, u149, u150, u151, u152, u153, u154, u155, u156, u157, u158, u159, u160, u161, u162, u163, u164, u165, u166, u167, u168, u169, u170, u171, u172, u173, u174, u175, u176, u177, u178, u179, u180, u181, u182, u183, u184, u185, u186, u187, u188, u189, u190, u191, u192, u193, u194, u195, u196, u197, u198, u199, u200, u201, u202, u203, u204, u205, u206, u207, u208, u209, u210, u211, u212, u213, u214, u215, u216, u217, u218, u219, u220, u221, u222, u223, u224, u225, u226, u227, u228, u229, u230, u231, u232, u233, u234, u235, u236, u237, u238, u239, u240, u241, u242, u243, u244, u245, u246, u247, u248, u249, u250, u251, u252, u253, u254, u255, u256, u257, u258, u259, u260, u261, u262, u263, u264, u265, u266, u267, u268, u269, u270, u271, u272, u273, u274, u275, u276, u277, u278, u279, u280, u281, u282, u283, u284, u285, u286, u287, u288, u289, u290, u291, u292, u293, u294, u295, u296, u297, u298, u299, u300, u301, u302, u303, u304, u305, u306, u307, u308, u309, u310, u311, u312, u313, u314, u315, u316, u317, u318, u319], defers := [] } U := by
  simp only [Try.f7, blk, Option.bind, Option.or, Nat.reduceEqDiff, reduceCtorEq, if_false, if_true, reduceIte] at hc
  injection hc with hc
  subst hc
  have HQ := hid hQ
  clear hQ
  obtain ⟨e0, e1, e2, e3, e4, e5, e6, e7, e8, e9, e10, e11, e12⟩ := ev_row s.ex
  obtain ⟨a0, a1, a2, a3, a4, a5, a6, a7, a8, a9, a10, a11, a12⟩ := ev_row hA
  simp only [ez] at a0 a1 a2 a3 a4 a5 a6 a7 a8 a9 a10 a11 a12
  have f0 := row_frz hA 0
  have f1 := row_frz hA 1
  have f2 := row_frz hA 2
  have f3 := row_frz hA 3
  have f4 := row_frz hA 4
  have f5 := row_frz hA 5
  have f6 := row_frz hA 6
  have f7 := row_frz hA 7
  have f8 := row_frz hA 8
  have f9 := row_frz hA 9
  have f10 := row_frz hA 10
  have f11 := row_frz hA 11
  have f12 := row_frz hA 12
  have hEA : E ≠ A := by have := s.ve; have := s.av; omega
  have hAE : A ≠ E := Ne.symm hEA
  obtain ⟨g0, g1, g2, g3, g4, g5⟩ := bk_cells s.bx
  have hXA : X ≠ A := row_ne s.bx hA (by decide)
  have hAX : A ≠ X := Ne.symm hXA
  rw [kd] at e1 HQ ⊢
  have K1 := hid k1
  have K2 := hid k2
  have KA := hid hA
  have KP := hid kp
  have HS := hid s
  have KD := hid kd
  clear k1 k2 hA kp s kd
  go_upto_region 18 with fail
  go_region
  go_upto_region 19 with fail
  have q1 := st13 KA.out (.int .u64 e.sq) (.int .i64 1) (.int .u64 e.id) (.int .u64 e.ot) (.int .u64 e.tg) (.int .u32 e.mb) (.int .i64 e.sd) (.int .i64 e.ty) (.int .i64 e.pr) (.int .u64 e.qt) (.int .u64 e.pk) (.int .i64 e.rs) (.int .i64 e.cd)
  have q2 := kp13 U A (.int .u64 e.sq) (.int .i64 1) (.int .u64 e.id) (.int .u64 e.ot) (.int .u64 e.tg) (.int .u32 e.mb) (.int .i64 e.sd) (.int .i64 e.ty) (.int .i64 e.pr) (.int .u64 e.qt) (.int .u64 e.pk) (.int .i64 e.rs) (.int .i64 e.cd)
  obtain ⟨U3, hU3⟩ : ∃ U3, (((((((((((((U.setCell ⟨A, 0, none⟩ (.int .u64 e.sq)).setCell ⟨A, 1, none⟩ (.int .i64 1)).setCell ⟨A, 2, none⟩ (.int .u64 e.id)).setCell ⟨A, 3, none⟩ (.int .u64 e.ot)).setCell ⟨A, 4, none⟩ (.int .u64 e.tg)).setCell ⟨A, 5, none⟩ (.int .u32 e.mb)).setCell ⟨A, 6, none⟩ (.int .i64 e.sd)).setCell ⟨A, 7, none⟩ (.int .i64 e.ty)).setCell ⟨A, 8, none⟩ (.int .i64 e.pr)).setCell ⟨A, 9, none⟩ (.int .u64 e.qt)).setCell ⟨A, 10, none⟩ (.int .u64 e.pk)).setCell ⟨A, 11, none⟩ (.int .i64 e.rs)).setCell ⟨A, 12, none⟩ (.int .i64 e.cd)) = U3 := ⟨_, rfl⟩
  rw [hU3] at q1 q2
  rw [hU3]
  obtain ⟨U2, hU2⟩ : ∃ U2, U3.drew = U2 := ⟨_, rfl⟩
  have hecs : (ecs e).toArray = #[.int .u64 e.sq, .int .i64 1, .int .u64 e.id, .int .u64 e.ot, .int .u64 e.tg, .int .u32 e.mb, .int .i64 e.sd, .int .i64 e.ty, .int .i64 e.pr, .int .u64 e.qt, .int .u64 e.pk, .int .i64 e.rs, .int .i64 e.cd] := by unfold ecs; rw [KD.out]
  have hr2 : U2.heap[A]? = some (.cells (ecs e).toArray 58 (0, 0)) := by
    rw [hecs, ← hU2]
    exact row_on q1 (bdrew1 _)
  have hk2 : Kp (fun j => j = A) U U2 := by
    rw [← hU2]
    exact q2.trans (Kp.of (fun j => j = A) (bdrew1 _)) (fun _ _ h => h)
  rw [hU2]
  clear q1 q2 hU3 hecs
  clear hU2 e0 e1 e2 e3 e4 e5 e6 e7 e8 e9 e10 e11 e12 a0 a1 a2 a3 a4 a5 a6 a7 a8 a9 a10 a11 a12 f0 f1 f2 f3 f4 f5 f6 f7 f8 f9 f10 f11 f12 g0 g1 g2 g3 g4 g5
  have HR2 := hid hr2
  have HK2 := hid hk2
  obtain ⟨g0, g1, g2, g3, g4, g5⟩ := bk_cells (hk2.row HS.out.bx hXA)
  obtain ⟨e0, e1, e2, e3, e4, e5, e6, e7, e8, e9, e10, e11, e12⟩ := ev_row (hk2.row HS.out.ex hEA)
  have HKK := hid (HS.out.kp.trans hk2 (fun g _ h => .inl h))
  have HO1 := hid (own_same (w' := U2) K1.out (fun g hg => by obtain ⟨cc, ee⟩ := own_ty K1.out hg; exact hk2.obj g (row_lt ee) (HS.out.fa g (HS.out.f1 g hg))))
  have HO2 := hid (own_same (w' := U2) K2.out (fun g hg => by obtain ⟨cc, ee⟩ := own_ty K2.out hg; exact hk2.obj g (row_lt ee) (HS.out.fa g (HS.out.f2 g hg))))
  clear hr2 hk2
  have l1 : (osl b.l1).length = b.l1.length := by simp [osl]
  have l2 : (osl b.l2).length = b.l2.length := by simp [osl]
  rcases ksd with k | k
  · have hk1 : oth e.sd = 2 := by rw [k]; rfl
    have KH := hid (show Hl b A F (.slice x1 b.l1.length y1) (.slice x2 b.l2.length y2) U2 e.qt x2 b.l2.length y2 es from .inr ⟨e, osl b.l2, l2.symm, .inl k, HR2.out, Sd.of_own (by rw [l2]; exact HO2.out) (by rw [l2]; exact HS.out.f2), by have := KP.out; rw [hk1] at this; exact this⟩)
    rw [k] at e6
    clear k hk1 l1 l2
    go_wp2
    exact HQ.out e.qt x2 b.l2.length y2 U2 _ _ _ _ _ _ _ _ _ _ _ _ _ _ _ _ _ _ _ _ _ _ _ _ _ _ _ _ _ _ _ _ _ _ _ _ _ _ _ _ _ _ _ _ _ _ _ _ _ _ _ _ _ _ _ _ _ _ _ _ _ _ _ _ _ _ _ _ _ _ _ _ _ _ _ _ _ _ _ _ _ _ _ _ _ _ _ _ _ _ _ _ _ _ _ _ _ _ _ _ _ _ _ _ _ _ _ _ _ _ _ _ _ _ _ _ _ _ _ _ _ _ _ _ _ _ _ _ _ _ _ _ _ _ _ _ _ _ _ _ _ _ _ _ _ _ _ _ _ _ _ _ _ _ _ _ _ _ _ _ _ _ _ _ _ _ _ _ _ _ _ _ _ _ _ _ _ _ _ _ _ _ _ _ _ _ _ _ _ _ _ _ _ _ _ _ _ _ _ _ _ _ _ _ _ _ _ _ _ _ _ _ _ _ _ _ _ _ _ _ _ _ _ _ _ _ _ _ _ _ _ _ _ _ _ _ _ _ _ _ _ _ _ _ _ _ _ _ _ _ _ _ _ _ _ _ _ _ _ _ _ _ _ _ _ HKK.out KH.out
  · have hk1 : oth e.sd = 1 := by rw [k]; rfl
    have KH := hid (show Hl b A F (.slice x1 b.l1.length y1) (.slice x2 b.l2.length y2) U2 e.qt x1 b.l1.length y1 es from .inr ⟨e, osl b.l1, l1.symm, .inr k, HR2.out, Sd.of_own (by rw [l1]; exact HO1.out) (by rw [l1]; exact HS.out.f1), by have := KP.out; rw [hk1] at this; exact this⟩)
    rw [k] at e6
    clear k hk1 l1 l2
    go_wp2
    exact HQ.out e.qt x1 b.l1.length y1 U2 _ _ _ _ _ _ _ _ _ _ _ _ _ _ _ _ _ _ _ _ _ _ _ _ _ _ _ _ _ _ _ _ _ _ _ _ _ _ _ _ _ _ _ _ _ _ _ _ _ _ _ _ _ _ _ _ _ _ _ _ _ _ _ _ _ _ _ _ _ _ _ _ _ _ _ _ _ _ _ _ _ _ _ _ _ _ _ _ _ _ _ _ _ _ _ _ _ _ _ _ _ _ _ _ _ _ _ _ _ _ _ _ _ _ _ _ _ _ _ _ _ _ _ _ _ _ _ _ _ _ _ _ _ _ _ _ _ _ _ _ _ _ _ _ _ _ _ _ _ _ _ _ _ _ _ _ _ _ _ _ _ _ _ _ _ _ _ _ _ _ _ _ _ _ _ _ _ _ _ _ _ _ _ _ _ _ _ _ _ _ _ _ _ _ _ _ _ _ _ _ _ _ _ _ _ _ _ _ _ _ _ _ _ _ _ _ _ _ _ _ _ _ _ _ _ _ _ _ _ _ _ _ _ _ _ _ _ _ _ _ _ _ _ _ _ _ _ _ _ _ _ _ _ _ _ _ _ _ _ _ _ _ _ _ _ HKK.out KH.out
end

section
open Go.RowKit Go.Deep Go.Shelf
set_option linter.unusedVariables false
set_option linter.unusedSimpArgs false
set_option maxHeartbeats 8000000
set_option maxRecDepth 100000
attribute [local go_sem ↓] Go.wp_at_zero Go.wp_at_succ
theorem sw_meet {V U : World} {A E X ge m q3 j : Nat} {F : Nat → Prop} {b : Bs} {x1 x2 : Option Addr} {y1 y2 : Nat} {left : Int} {p : Option Addr} {n c : Nat} {e : Ev} {es : List Ev} (s : Sw V U A E X ge m j F b x1 x2 y1 y2 e es) {a : Ev} {y : Or} {r : List Or} (hol : n = (y :: r).length) (had : a.sd = 1 ∨ a.sd = 2) (hA : U.heap[A]? = some (.cells (ecs a).toArray 58 (0, 0))) (k4 : Sd U F p c (y :: r)) (ob : OrB y) (kd : e.kd = 4) (krs : e.rs = 5) (kne : e.id ≠ a.id) (i1 : y.id = e.id) (i2 : y.mb ≠ 0) (i3 : y.mb = a.mb) (hqt : e.qt = y.vi + y.hi) (kp : Pr a left r es) {cd : Code} (hc : (Try.f7.body.bind (blk 4)) = some cd) (u0 u1 u2 u3 u4 u5 u6 u7 u15 u16 u17 u18 u19 u20 u21 u22 u23 u24 u25 u26 u27 u28 u29 u30 u31 u32 u33 u34 u35 u36 u37 u38 u39 u40 u41 u42 u43 u44 u45 u46 u47 u48 u49 u50 u51 u52 u53 u54 u55 u57 u58 u59 u60 u61 u62 u63 u64 u65 u66 u67 u68 u69 u70 u71 u72 u73 u74 u75 u76 u77 u78 u79 u80 u81 u82 u83 u84 u85 u86 u87 u88 u89 u90 u91 u92 u93 u94 u95 u96 u97 u98 u99 u100 u101 u102 u103 u104 u105 u106 u107 u108 u109 u110 u111 u112 u113 u114 u115 u116 u117 u118 u119 u120 u121 u122 u123 u124 u125 u126 u127 u128 u129 u130 u131 u132 u133 u134 u135 u136 u137 u138 u139 u140 u141 u142 u143 u144 u145 u146 u147 u148 u149 u150 u151 u152 u153 u154 u155 u156 u157 u158 u159 u160 u161 u162 u163 u164 u165 u166 u167 u168 u169 u170 u171 u172 u173 u174 u175 u176 u177 u178 u179 u180 u181 u182 u183 u184 u185 u186 u187 u188 u189 u190 u191 u192 u193 u194 u195 u196 u197 u198 u199 u200 u201 u202 u203 u204 u205 u206 u207 u208 u209 u210 u211 u212 u213 u214 u215 u216 u217 u218 u219 u220 u221 u222 u223 u224 u225 u226 u227 u228 u229 u230 u231 u232 u233 u234 u235 u236 u237 u238 u239 u240 u241 u242 u243 u244 u245 u246 u247 u248 u249 u250 u251 u252 u253 u254 u255 u256 u257 u258 u259 u260 u261 u262 u263 u264 u265 u266 u267 u268 u269 u270 u271 u272 u273 u274 u275 u276 u277 u278 u279 u280 u281 u282 u283 u284 u285 u286 u287 u288 u289 u290 u291 u292 u293 u294 u295 u296 u297 u298 u299 u300 u301 u302 u303 u304 u305 u306 u307 u308 u309 u310 u311 u312 u313 u314 u315 u316 u317 u318 u319 : Value)
    {Q : Exit → Act → World → Prop} (hQ : ∀ (left2 : Int) (p2 : Option Addr) (n2 c2 : Nat) (U2 : World) (v15 v16 v57 v58 v59 v60 v61 v62 v63 v64 v65 v66 v67 v68 v69 v70 v71 v72 v73 v74 v75 v76 v77 v78 v79 v80 v81 v82 v83 v84 v85 v86 v87 v88 v89 v90 v91 v92 v93 v94 v95 v96 v97 v98 v99 v100 v101 v102 v103 v104 v105 v106 v107 v108 v109 v110 v111 v112 v113 v114 v115 v116 v117 v118 v119 v120 v121 v122 v123 v124 v125 v126 v127 v128 v129 v130 v131 v132 v133 v134 v135 v136 v137 v138 v139 v140 v141 v142 v143 v144 v145 v146 v147 v148 v149 v150 v151 v152 v153 v154 v155 v156 v157 v158 v159 v160 v161 v162 v163 v164 v165 v166 v167 v168 v169 v170 v171 v172 v173 v174 v175 v176 v177 v178 v179 v180 v181 v182 v183 v184 v185 v186 v187 v188 v189 v190 v191 v192 v193 v194 v195 v196 v197 v198 v199 v200 v201 v202 v203 v204 v205 v206 v207 v208 v209 v210 v211 v212 v213 v214 v215 v216 v217 v218 v219 v220 v221 v222 v223 v224 v225 v226 v227 v228 v229 v230 v231 v232 v233 v234 v235 v236 v237 v238 v239 v240 v241 v242 v243 v244 v245 v246 v247 v248 v249 v250 v251 v252 v253 v254 v255 v256 v257 v258 v259 v260 v261 v262 v263 v264 v265 v266 v267 v268 v269 v270 v271 v272 v273 v274 v275 v276 v277 v278 v279 v280 v281 v282 v283 v284 v285 v286 v287 v288 v289 v290 v291 v292 v293 v294 v295 v296 v297 v298 v299 v300 v301 v302 v303 v304 v305 v306 v307 v308 v309 v310 v311 v312 v313 v314 v315 v316 v317 v318 v319 : Value), Kp (fun j => j = A ∨ F j) V U2 → Hl b A F (.slice x1 b.l1.length y1) (.slice x2 b.l2.length y2) U2 left2 p2 n2 c2 es → Q .normal { tmps := #[u0, u1, u2, u3, u4, u5, u6, u7, .pointer (some ⟨X, 0, none⟩), .slice (some ⟨ge, 0, none⟩) m q3, .pointer (some ⟨A, 0, none⟩), .int .u64 left2, .slice p2 n2 c2, .int .i64 (j : Int), .pointer (some ⟨E, 0, none⟩), v15, v16, u17, u18, u19, u20, u21, u22, u23, u24, u25, u26, u27, u28, u29, u30, u31, u32, u33, u34, u35, u36, u37, u38, u39, u40, u41, u42, u43, u44, u45, u46, u47, u48, u49, u50, u51, u52, u53, u54, u55, .int .i64 e.kd, v57, v58, v59, v60, v61, v62, v63, v64, v65, v66, v67, v68, v69, v70, v71, v72, v73, v74, v75, v76, v77, v78, v79, v80, v81, v82, v83, v84, v85, v86, v87, v88, v89, v90, v91, v92, v93, v94, v95, v96, v97, v98, v99, v100, v101, v102, v103, v104, v105, v106, v107, v108, v109, v110, v111, v112, v113, v114, v115, v116, v117, v118, v119, v120, v121, v122, v123, v124, v125, v126, v127, v128, v129, v130, v131, v132, v133, v134, v135, v136, v137, v138, v139, v140, v141, v142, v143, v144, v145, v146, v147, v148, v149, v150, v151, v152, v153, v154, v155, v156, v157, v158, v159, v160, v161, v162, v163, v164, v165, v166, v167, v168, v169, v170, v171, v172, v173, v174, v175, v176, v177, v178, v179, v180, v181, v182, v183, v184, v185, v186, v187, v188, v189, v190, v191, v192, v193, v194, v195, v196, v197, v198, v199, v200, v201, v202, v203, v204, v205, v206, v207, v208, v209, v210, v211, v212, v213, v214, v215, v216, v217, v218, v219, v220, v221, v222, v223, v224, v225, v226, v227, v228, v229, v230, v231, v232, v233, v234, v235, v236, v237, v238, v239, v240, v241, v242, v243, v244, v245, v246, v247, v248, v249, v250, v251, v252, v253, v254, v255, v256, v257, v258, v259, v260, v261, v262, v263, v264, v265, v266, v267, v268, v269, v270, v271, v272, v273, v274, v275, v276, v277, v278, v279, v280, v281, v282, v283, v284, v285, v286, v287, v288, v289, v290, v291, v292, v293, v294, v295, v296, v297, v298, v299, v300, v301, v302, v303, v304, v305, v306, v307, v308, v309, v310, v311, v312, v313, v314, v315, v316, v317, v318, v319], defers := [] } U2) :
    cd.wp Try.prog Q { tmps := #[u0, u1, u2, u3, u4, u5, u6, u7, .pointer (some ⟨X, 0, none⟩), .slice (some ⟨ge, 0, none⟩) m q3, .pointer (some ⟨A, 0, none⟩), .int .u64 left, .slice p n c, .int .i64 (j : Int), .pointer (some ⟨E, 0, none⟩), u15, u16, u17, u18, u19, u20, u21, u22, u23, u24, u25, u26, u27, u28, u29, u30, u31, u32, u33, u34, u35, u36, u37, u38, u39, u40, u41, u42, u43, u44, u45, u46, u47, u48, u49, u50, u51, u52, u53, u54, u55, .int .i64 e.kd, u57, u58, u59, u60, u61, u62, u63, u64, u65, u66, u67, u68, u69, u70, u71, u72, u73, u74, u75, u76, u77, u78, u79, u80, u81, u82, u83, u84, u85, u86, u87, u88, u89, u90, u91, u92, u93, u94, u95, u96, u97, u98, u99, u100, u101, u102, u103, u104, u105, u106, u107, u108, u109, u110, u111, u112, u113, u114, u115, u116, u117, u118, u119, u120, u121, u122, u123, u124, u125, u126, u127, u128, u129, u130, u131, u132, u133, u134, u135, u136, u137, u138, u139, u140, u141, u142, u143, u144, u145, u146, u147, u148, u149, u150, u151, u152, u153, u154, u155, u156, u157, u158, u159, u160, u161, u162, u163, u164, u165, u166, u167, u168, u169, u170, u171, u172, u173, u174, u175, u176, u177, u178, u179, u180, u181, u182, u183, u184, u185, u186, u187, u188, u189, u190, u191, u192, u193, u194, u195, u196, u197, u198, u199, u200, u201, u202, u203, u204, u205, u206, u207, u208, u209, u210, u211, u212, u213, u214, u215, u216, u217, u218, u219, u220, u221, u222, u223, u224, u225, u226, u227, u228, u229, u230, u231, u232, u233, u234, u235, u236, u237, u238, u239, u240, u241, u242, u243, u244, u245, u246, u247, u248, u249, u250, u251, u252, u253, u254, u255, u256, u257, u258, u259, u260, u261, u262, u263, u264, u265, u266, u267, u268, u269, u270, u271, u272, u273, u274, u275, u276, u277, u278, u279, u280, u281, u282, u283, u284, u285, u286, u287, u288, u289, u290, u291, u292, u293, u294, u295, u296, u297, u298, u299, u300, u301, u302, u303, u304, u305, u306, u307, u308, u309, u310, u311, u312, u313, u314, u315, u316, u317, u318, u319], defers := [] } U := by
  simp only [Try.f7, blk, Option.bind, Option.or, Nat.reduceEqDiff, reduceCtorEq, if_false, if_true, reduceIte] at hc
  injection hc with hc
  subst hc
  have HQ := hid hQ
  clear hQ
  obtain ⟨e0, e1, e2, e3, e4, e5, e6, e7, e8, e9, e10, e11, e12⟩ := ev_row s.ex
  have hol' : n = r.length + 1 := hol
  have h0n : (0 : Int) < (n : Int) := by rw [hol']; exact Int.natCast_pos.2 (Nat.succ_pos _)
  have hnb : ((n : Int) == 0) = false := by rw [beq_eq_false_iff_ne]; exact Ne.symm (Int.ne_of_lt h0n)
  obtain ⟨g, off, cur, rfl, hFg, hrg, z0, z1, z2, z3, z4, z5, z6, fz⟩ := k4.head
  obtain ⟨a0, a1, a2, a3, a4, a5, a6, a7, a8, a9, a10, a11, a12⟩ := ev_row hA
  have K4 := hid k4
  have HFG := hid hFg
  have HRG := hid hrg
  have HOL := hid hol'
  have HOB := hid ob
  have HS := hid s
  have KA := hid hA
  clear k4 hFg hrg hol hol' ob s hA
  have HKP5 := hid kp
  have HAD := hid had
  rw [← i1] at e2 kne
  rw [hqt] at e9
  rw [i3] at i2 z1
  rw [kd] at e1 HQ ⊢
  rw [krs] at e11
  have kne' : (y.id != a.id) = true := by simpa using kne
  have i2' : (a.mb == 0) = false := by rw [beq_eq_false_iff_ne]; exact i2
  have hw : IntKind.u64.wrap (y.vi + y.hi) = y.vi + y.hi := by
    obtain ⟨b1, b2, b3, b4⟩ := HOB.out
    rw [IntKind.wrap_u64]
    omega
  have n1 : (a.mb != a.mb) = false := by simp
  have n2 : (y.id != y.id) = false := by simp
  have n3 : (y.vi + y.hi != y.vi + y.hi) = false := by simp
  clear kp kne i1 i2 i3 hqt kd krs had
  go_upto_region 51 with fail
  go_quiet (fail)
  have hb := bdrew U nq
  have ht : n - 1 = r.length := by have := HOL.out; omega
  have HBB := hid hb
  have HT := hid ht
  clear hb ht
  by_cases hc1 : c = 1
  · subst hc1
    go_wp2
    exact HQ.out left (some ⟨g, off, none⟩) (n - 1) 0 (U.drewN nq) _ _ _ _ _ _ _ _ _ _ _ _ _ _ _ _ _ _ _ _ _ _ _ _ _ _ _ _ _ _ _ _ _ _ _ _ _ _ _ _ _ _ _ _ _ _ _ _ _ _ _ _ _ _ _ _ _ _ _ _ _ _ _ _ _ _ _ _ _ _ _ _ _ _ _ _ _ _ _ _ _ _ _ _ _ _ _ _ _ _ _ _ _ _ _ _ _ _ _ _ _ _ _ _ _ _ _ _ _ _ _ _ _ _ _ _ _ _ _ _ _ _ _ _ _ _ _ _ _ _ _ _ _ _ _ _ _ _ _ _ _ _ _ _ _ _ _ _ _ _ _ _ _ _ _ _ _ _ _ _ _ _ _ _ _ _ _ _ _ _ _ _ _ _ _ _ _ _ _ _ _ _ _ _ _ _ _ _ _ _ _ _ _ _ _ _ _ _ _ _ _ _ _ _ _ _ _ _ _ _ _ _ _ _ _ _ _ _ _ _ _ _ _ _ _ _ _ _ _ _ _ _ _ _ _ _ _ _ _ _ _ _ _ _ _ _ _ _ _ _ _ _ _ _ _ _ _ _ _ _ _ _ _ _ _ (HS.out.kp.trans (Kp.of (fun _ => False) HBB.out) (fun _ _ h => h.elim)) (.inr ⟨a, r, HT.out, HAD.out, row_on KA.out HBB.out, K4.out.tail1.on HBB.out, HKP5.out⟩)
  · go_wp2
    exact HQ.out left (some ⟨g, off + 7, none⟩) (n - 1) (c - 1) (U.drewN nq) _ _ _ _ _ _ _ _ _ _ _ _ _ _ _ _ _ _ _ _ _ _ _ _ _ _ _ _ _ _ _ _ _ _ _ _ _ _ _ _ _ _ _ _ _ _ _ _ _ _ _ _ _ _ _ _ _ _ _ _ _ _ _ _ _ _ _ _ _ _ _ _ _ _ _ _ _ _ _ _ _ _ _ _ _ _ _ _ _ _ _ _ _ _ _ _ _ _ _ _ _ _ _ _ _ _ _ _ _ _ _ _ _ _ _ _ _ _ _ _ _ _ _ _ _ _ _ _ _ _ _ _ _ _ _ _ _ _ _ _ _ _ _ _ _ _ _ _ _ _ _ _ _ _ _ _ _ _ _ _ _ _ _ _ _ _ _ _ _ _ _ _ _ _ _ _ _ _ _ _ _ _ _ _ _ _ _ _ _ _ _ _ _ _ _ _ _ _ _ _ _ _ _ _ _ _ _ _ _ _ _ _ _ _ _ _ _ _ _ _ _ _ _ _ _ _ _ _ _ _ _ _ _ _ _ _ _ _ _ _ _ _ _ _ _ _ _ _ _ _ _ _ _ _ _ _ _ _ _ _ _ _ _ _ _ (HS.out.kp.trans (Kp.of (fun _ => False) HBB.out) (fun _ _ h => h.elim)) (.inr ⟨a, r, HT.out, HAD.out, row_on KA.out HBB.out, (K4.out.tail (fun _ => rfl)).on HBB.out, HKP5.out⟩)
end

end Go.Proofs.Ytalgndgoedlpoaa
