/-
  The law of price and time is walked. Written by mkpw.py.
-/
import Derived.Test.YtalgndgoedlpoaaRuPo
import Derived.Deep.CutBlock
namespace Go.Proofs.Ytalgndgoedlpoaa
open Go.RowKit Go.Deep Go.Shelf
set_option linter.unusedVariables false
set_option linter.unusedSimpArgs false
set_option maxHeartbeats 8000000
set_option maxRecDepth 100000
attribute [local go_sem ↓] Go.wp_at_zero Go.wp_at_succ
theorem prio_walk (cap meet : Int) (q : Option Addr) (lc : Nat) (l : List Cm) (W : World) (hl : Cmz W q l) (hok : ∀ c ∈ l, CmOk c) (hn : l.length ≤ maxLen) :
    Calls Try.prog 7 #[.agg #[.int .i64 cap, .int .i64 meet], .slice q l.length lc] W fun e w' => e = .returned (.bool true) ∧ Below W.heap.size W w' := by
  have CB := hid (fun U => begun_any cap meet U)
  obtain ⟨v, hv⟩ : ∃ v, cfg cap meet = v := ⟨_, rfl⟩
  rw [hv] at CB
  clear hv
  obtain ⟨n, hnn⟩ : ∃ n, l.length = n := ⟨_, rfl⟩
  have HN := hid hnn
  rw [hnn] at hn ⊢
  clear hnn
  have hn' : n < 9223372036854775808 := by unfold maxLen at hn; omega
  have HL := hid hl
  have HOK := hid hok
  have HB := hid (ball W (.cells #[.int .i64 cap, .int .i64 meet] 23))
  have hr := World.alloc_heap_new W (.cells #[.int .i64 cap, .int .i64 meet] 23)
  obtain ⟨W1, hW⟩ : ∃ W1, W.alloc (.cells #[.int .i64 cap, .int .i64 meet] 23) = W1 := ⟨_, rfl⟩
  rw [hW] at HB hr
  have HW := hid hW
  have c0 := row_cell hr 0
  have c1 := row_cell hr 1
  simp only [List.getElem?_toArray, List.getElem?_cons_succ, List.getElem?_cons_zero] at c0 c1
  clear hr hW hl hok
  cases v with
  | false =>
    have CB2 := hid ((CB.out W1).mono (R' := fun e w' => e = .returned (.tuple #[.pointer none, .bool true]) ∧ Below W1.heap.size W1 w') (by
      rintro e w' (⟨_, h1, h2⟩ | ⟨h, _⟩)
      · exact ⟨h1, h2⟩
      · cases h))
    go_enter Try.func7, Try.ntmps7
    go_upto_region 1 with fail
    have e0 := HW.out
    rw [e0]
    clear e0
    go_wp2_with (go_at_call 13; with_reducible refine (CB2.out).mono ?_; rintro e w1 ⟨rfl, hb1⟩; have HB1 := hid hb1; clear hb1)
    go_ret
    exact ⟨rfl, btr HB.out HB1.out⟩
  | true =>
    have CB2 := hid ((CB.out W1).mono (R' := fun e w' => ∃ B b, e = .returned (.tuple #[.pointer (some ⟨B, 0, none⟩), .bool true]) ∧ Pl W B b w' ∧ ∀ S, Pkl (b.sl S)) (by
      rintro e w' (⟨h, _⟩ | ⟨_, B, b, h1, h2, h3⟩)
      · cases h
      · refine ⟨B, b, h1, h2.back HB.out, fun S => ?_⟩
        have : b.sl S = [] := by unfold Bs.sl; split; exact h3.l1; exact h3.l2
        rw [this]
        intro y hy
        cases hy))
    go_enter Try.func7, Try.ntmps7
    go_upto_region 1 with fail
    have e0 := HW.out
    rw [e0]
    clear e0
    go_wp2_with (go_at_call 13; with_reducible refine (CB2.out).mono ?_; rintro e w1 ⟨B, b0, rfl, h1, hp1⟩; have H1 := hid h1; have HP1 := hid hp1; clear h1 hp1)
    clear c0 c1
    go_loopw [7] (fun iv wr => ∃ (i : Nat) (b : Bs), i ≤ n ∧ iv = .int .i64 i ∧ Hid (Pl W B b wr) ∧ Hid (∀ S, Pkl (b.sl S))) (fun iv _ => n - (intOf iv).toNat)
    case atStart => exact ⟨0, b0, Nat.zero_le _, rfl, H1, HP1⟩
    case round =>
      obtain ⟨i, b, hin, rfl, HP, HPK⟩ := hrel
      by_cases hlt : i < n
      · have hil : i < l.length := by rw [HN.out]; exact hlt
        have hck := HOK.out l[i] (List.getElem_mem hil)
        have HCL := hid (fun (U : World) (hU : Below W.heap.size W U) => cmz_cells HL.out hU hil)
        obtain ⟨c, hc⟩ : ∃ c, l[i] = c := ⟨_, rfl⟩
        rw [hc] at hck HCL
        clear hc
        have HCK := hid hck
        clear hck
        obtain ⟨qb, qo, hq, _⟩ := HCL.out wr HP.out.be
        subst hq
        have i0' : (0 : Int) ≤ (i : Int) := by omega
        have i1 : (i : Int) < (n : Int) := by omega
        have CK := hid (book_any B b wr HP.out.bm HP.out.gb.vb.len)
        unfold bkv at CK
        go_upto_region 8 with (go_at_call 17; with_reducible refine (CK.out).mono ?_; rintro e w2 ⟨v1, v2, rfl, ho1, ho2, hb2⟩; obtain ⟨x1, y1, rfl⟩ := own_form ho1; obtain ⟨x2, y2, rfl⟩ := own_form ho2; have HO1 := hid ho1; have HO2 := hid ho2; have HB2 := hid hb2; clear ho1 ho2 hb2)
        obtain ⟨X, hX⟩ : ∃ X, w2.heap.size = X := ⟨_, rfl⟩
        obtain ⟨W2, hW2⟩ : ∃ W2, w2.alloc (.cells #[.int .i64 b.cap, .int .i64 b.meet, .slice x1 b.l1.length y1, .slice x2 b.l2.length y2, .int .u64 b.high, .int .u64 b.seq] 32) = W2 := ⟨_, rfl⟩
        have hbW : Below w2.heap.size w2 W2 := by rw [← hW2]; exact ball _ _
        have HP2 := hid ((HP.out.on HB2.out).on hbW)
        have HLY := hid (show Ly wr X b (.slice x1 b.l1.length y1) (.slice x2 b.l2.length y2) W2 from ⟨by rw [← hW2, ← hX]; exact World.alloc_heap_new _ _, own_on HO1.out hbW, own_on HO2.out hbW, by rw [← hX]; exact HB2.out.size⟩)
        rw [hX, hW2]
        clear hX hW2 hbW HO1 HO2 HB2
        have CD := hid (show Calls Try.prog 10 #[.pointer (some ⟨B, 0, none⟩), .agg (cmr c)] W2 fun e w' => ∃ b' p q es', e = .returned (.slice p es'.length q) ∧ Pl W B b' w' ∧ w'.ownsRow 0 58 13 (.slice p es'.length q) es'.length (evs es') ∧ P0 b es' ∧ (∀ S, Pkl (b'.sl S)) ∧ Ly wr X b (.slice x1 b.l1.length y1) (.slice x2 b.l2.length y2) w' ∧ (∀ j, b'.fp B j → j < wr.heap.size ∨ W2.heap.size ≤ j) ∧ W2.heap.size ≤ w'.heap.size from by
          refine (pl_do3 c HP2.out HCK.out).mono ?_
          rintro e w' ⟨b', p, q, es', h1, h2, h3, h4, h5, h6⟩
          refine ⟨b', p, q, es', h1, h2, h3, did_pr h4 HP.out.gb HPK.out, did_pk h4 HPK.out, HLY.out.kept (W := W) HP.out.bm HP2.out.bm h5, fun j hj => ?_, h5.size⟩
          rcases h6 j hj with h | h
          · obtain ⟨_, _, e, _⟩ := HP.out.bm.ty h
            exact .inl (row_lt e)
          · exact .inr h)
        unfold cmr at CD
        have HCX := hid (fun (U : World) (hU : Below W.heap.size W U) => (show U.cell? ⟨qb, qo + i * 9, none⟩ = some (.int .i64 c.kd) ∧ U.cell? ⟨qb, qo + i * 9 + 1, none⟩ = some (.int .u64 c.id) ∧ U.cell? ⟨qb, qo + i * 9 + 2, none⟩ = some (.int .u64 c.tg) ∧ U.cell? ⟨qb, qo + i * 9 + 3, none⟩ = some (.int .u32 c.mb) ∧ U.cell? ⟨qb, qo + i * 9 + 4, none⟩ = some (.int .i64 c.sd) ∧ U.cell? ⟨qb, qo + i * 9 + 5, none⟩ = some (.int .i64 c.ty) ∧ U.cell? ⟨qb, qo + i * 9 + 6, none⟩ = some (.int .i64 c.pr) ∧ U.cell? ⟨qb, qo + i * 9 + 7, none⟩ = some (.int .u64 c.qt) ∧ U.cell? ⟨qb, qo + i * 9 + 8, none⟩ = some (.int .u64 c.pk) from by
          obtain ⟨b1, o1, hq, a0, a1, a2, a3, a4, a5, a6, a7, a8⟩ := HCL.out U hU
          injection hq with hq
          injection hq with e1 e2 _
          subst e1
          subst e2
          exact ⟨a0, a1, a2, a3, a4, a5, a6, a7, a8⟩))
        obtain ⟨a0, a1, a2, a3, a4, a5, a6, a7, a8⟩ := HCX.out W2 HP2.out.be
        go_upto_region 9 with (go_at_call 10; with_reducible refine (CD.out).mono ?_; rintro e w3 ⟨b', p3, q3, es', rfl, h3, ho3, hk3, hpk3, hy3, hf3, hz3⟩; have H3 := hid h3; have HO3 := hid ho3; have HK3 := hid hk3; have HPK3 := hid hpk3; have HY3 := hid hy3; have HF3 := hid hf3; have HZ3 := hid hz3; clear h3 ho3 hk3 hpk3 hy3 hf3 hz3)
        clear a0 a1 a2 a3 a4 a5 a6 a7 a8
        obtain ⟨m, hm⟩ : ∃ m, es'.length = m := ⟨_, rfl⟩
        have HM := hid hm
        rw [hm]
        clear hm
        go_upto_block 2 with fail
        obtain ⟨V, hV⟩ : ∃ V, (w3.alloc (.cells #[.int .u64 0, .int .i64 0, .int .u64 0, .int .u64 0, .int .u64 0, .int .u32 0, .int .i64 0, .int .i64 0, .int .i64 0, .int .u64 0, .int .u64 0, .int .i64 0, .int .i64 0] 58)).alloc (.cells #[] 50) = V := ⟨_, rfl⟩
        have hbV : Below w3.heap.size w3 V := by rw [← hV]; exact btr (ball _ _) (ball _ _)
        have hrA : V.heap[w3.heap.size]? = some (.cells #[.int .u64 0, .int .i64 0, .int .u64 0, .int .u64 0, .int .u64 0, .int .u32 0, .int .i64 0, .int .i64 0, .int .i64 0, .int .u64 0, .int .u64 0, .int .i64 0, .int .i64 0] 58 (0, 0)) := by rw [← hV]; exact row_on (World.alloc_heap_new _ _) (ball _ _)
        obtain ⟨A, hA⟩ : ∃ A, w3.heap.size = A := ⟨_, rfl⟩
        rw [hV]
        rw [hA] at hrA ⊢
        have HPV := hid (H3.out.on hbV)
        have HYV := hid (HY3.out.on hbV)
        have HOV := hid (own_on HO3.out hbV)
        have hAV : A < V.heap.size := row_lt hrA
        have hzV : A ≤ V.heap.size := by rw [← hA]; exact hbV.size
        obtain ⟨F, hF⟩ : ∃ F : Nat → Prop, F = fun j => (Value.slice x1 b.l1.length y1).ownBlock = some j ∨ (Value.slice x2 b.l2.length y2).ownBlock = some j ∨ V.heap.size ≤ j := ⟨_, rfl⟩
        have hF50 : ∀ j, F j → j < V.heap.size → ∃ c, V.heap[j]? = some (.cells c 50 (0, 0)) := fun j hj hl => by
          rw [hF] at hj
          rcases hj with h | h | h
          · exact own_ty HYV.out.o1 h
          · exact own_ty HYV.out.o2 h
          · omega
        have hFw : ∀ j, F j → wr.heap.size ≤ j := fun j hj => by
          rw [hF] at hj
          rcases hj with h | h | h
          · exact (HYV.out.o1.lt j h).1
          · exact (HYV.out.o2.lt j h).1
          · have := HLY.out.wx; have := row_lt HYV.out.row; omega
        have hFz : ∀ j, F j → j < V.heap.size → j < W2.heap.size := fun j hj hl => by
          rw [hF] at hj
          rcases hj with h | h | h
          · obtain ⟨c, e⟩ := own_ty HLY.out.o1 h; exact row_lt e
          · obtain ⟨c, e⟩ := own_ty HLY.out.o2 h; exact row_lt e
          · omega
        have hW0 : W.heap.size ≤ wr.heap.size := HP.out.be.size
        have hWA : W.heap.size ≤ A := by rw [← hA]; exact H3.out.be.size
        have HKP := hid (fun (U : World) (hk : Kp (fun j => j = A ∨ F j) V U) => (show Pl W B b' U ∧ U.ownsRow 0 58 13 (.slice p3 es'.length q3) es'.length (evs es') ∧ U.heap[X]? = some (.cells (bkv b (.slice x1 b.l1.length y1) (.slice x2 b.l2.length y2)) 32 (0, 0)) from by
          refine ⟨HPV.out.keep hk ?_ ?_, own_same HOV.out (fun g hg => ?_), hk.row HYV.out.row ?_⟩
          · rintro j hj (h | h)
            · exact HPV.out.bm.ne hrA (by decide) (by decide) (by decide) hj h
            · obtain ⟨_, _, e, _⟩ := HPV.out.bm.ty hj
              have hlt := row_lt e
              rcases HF3.out j hj with h' | h'
              · have := hFw j h; omega
              · have := hFz j h hlt; omega
          · rintro j (h | h)
            · omega
            · have := hFw j h; omega
          · obtain ⟨c, e⟩ := own_ty HOV.out hg
            refine hk.obj g (row_lt e) ?_
            rintro (h | h)
            · obtain ⟨c', e'⟩ := own_ty HO3.out hg
              have := row_lt e'
              omega
            · obtain ⟨c', e'⟩ := hF50 g h (row_lt e)
              exact row_ne e e' (by decide) rfl
          · rintro (h | h)
            · have := row_lt HY3.out.row
              omega
            · obtain ⟨c', e'⟩ := hF50 X h (row_lt HYV.out.row)
              exact row_ne HYV.out.row e' (by decide) rfl))
        have HFA := hid (show ∀ g, F g → g ≠ A from by
          intro g hg h
          have hlt : g < V.heap.size := by omega
          obtain ⟨c', e'⟩ := hF50 g hg hlt
          rw [h] at e'
          exact row_ne e' hrA (by decide) rfl)
        have HF1 := hid (show ∀ g, (Value.slice x1 b.l1.length y1).ownBlock = some g → F g from fun g hg => by rw [hF]; exact .inl hg)
        have HF2 := hid (show ∀ g, (Value.slice x2 b.l2.length y2).ownBlock = some g → F g from fun g hg => by rw [hF]; exact .inr (.inl hg))
        have HFN := hid (show ∀ g, V.heap.size ≤ g → F g from fun g hg => by rw [hF]; exact .inr (.inr hg))
        have HST := hid (show Hl b A F (.slice x1 b.l1.length y1) (.slice x2 b.l2.length y2) V 0 (some ⟨A + 1, 0, none⟩) 0 0 es' from .inl ⟨own_base HYV.out.o1 (Nat.zero_le _), own_base HYV.out.o2 (Nat.zero_le _), hrA, HK3.out⟩)
        clear hF50 hFw hFz hW0 hWA hrA hbV hV hF hzV HYV HOV HY3 HO3 HK3 HF3 HZ3 HLY HP2 CD CK
        have HKQ := hid (fun (U : World) (hk : Kp (fun j => j = A ∨ F j) V U) => (HKP.out U hk).2)
        refine in_any HKQ.out hAV HFA.out HFN.out HF1.out HF2.out HST.out HM.out (by kernel_rfl) _ _ _ _ _ _ _ _ _ _ _ _ _ _ _ _ _ _ _ _ _ _ _ _ _ _ _ _ _ _ _ _ _ _ _ _ _ _ _ _ _ _ _ _ _ _ _ _ _ _ _ _ _ _ _ _ _ _ _ _ _ _ _ _ _ _ _ _ _ _ _ _ _ _ _ _ _ _ _ _ _ _ _ _ _ _ _ _ _ _ _ _ _ _ _ _ _ _ _ _ _ _ _ _ _ _ _ _ _ _ _ _ _ _ _ _ _ _ _ _ _ _ _ _ _ _ _ _ _ _ _ _ _ _ _ _ _ _ _ _ _ _ _ _ _ _ _ _ _ _ _ _ _ _ _ _ _ _ _ _ _ _ _ _ _ _ _ _ _ _ _ _ _ _ _ _ _ _ _ _ _ _ _ _ _ _ _ _ _ _ _ _ _ _ _ _ _ _ _ _ _ _ _ _ _ _ _ _ _ _ _ _ _ _ _ _ _ _ _ _ _ _ _ _ _ _ _ _ _ _ _ _ _ _ _ _ _ _ _ _ _ _ _ _ _ _ _ _ _ _ _ _ _ _ _ _ _ _ _ _ _ _ _ _ _ _ _ _ _ _ _ _ _ _ _ _ _ _ _ _ _ _ _ _ _ _ _ _ _ _ _ _ _ _ _ _ _ _ _ _ _ _ _ _ _ _ _ _ _ _ _ _ _ _ ?_
        intro U2 v4 v11 v12 v13 v14 v15 v16 v45 v46 v47 v48 v49 v50 v51 v52 v53 v54 v55 v56 v57 v58 v59 v60 v61 v62 v63 v64 v65 v66 v67 v68 v69 v70 v71 v72 v73 v74 v75 v76 v77 v78 v79 v80 v81 v82 v83 v84 v85 v86 v87 v88 v89 v90 v91 v92 v93 v94 v95 v96 v97 v98 v99 v100 v101 v102 v103 v104 v105 v106 v107 v108 v109 v110 v111 v112 v113 v114 v115 v116 v117 v118 v119 v120 v121 v122 v123 v124 v125 v126 v127 v128 v129 v130 v131 v132 v133 v134 v135 v136 v137 v138 v139 v140 v141 v142 v143 v144 v145 v146 v147 v148 v149 v150 v151 v152 v153 v154 v155 v156 v157 v158 v159 v160 v161 v162 v163 v164 v165 v166 v167 v168 v169 v170 v171 v172 v173 v174 v175 v176 v177 v178 v179 v180 v181 v182 v183 v184 v185 v186 v187 v188 v189 v190 v191 v192 v193 v194 v195 v196 v197 v198 v199 v200 v201 v202 v203 v204 v205 v206 v207 v208 v209 v210 v211 v212 v213 v214 v215 v216 v217 v218 v219 v220 v221 v222 v223 v224 v225 v226 v227 v228 v229 v230 v231 v232 v233 v234 v235 v236 v237 v238 v239 v240 v241 v242 v243 v244 v245 v246 v247 v248 v249 v250 v251 v252 v253 v254 v255 v256 v257 v258 v259 v260 v261 v262 v263 v264 v265 v266 v267 v268 v269 v270 v271 v272 v273 v274 v275 v276 v277 v278 v279 v280 v281 v282 v283 v284 v285 v286 v287 v288 v289 v290 v291 v292 v293 v294 v295 v296 v297 v298 v299 v300 v301 v302 v303 v304 v305 v306 v307 v308 v309 v310 v311 v312 v313 v314 v315 v316 v317 v318 v319 hk2
        have HEND := hid (HKP.out U2 hk2).1
        clear hk2
        go_wp2
        go_roundw
        case rel => exact ⟨i + 1, b', by omega, by go_num, HEND, HPK3⟩
        case measure => simp [intOf]; omega
      · obtain rfl : i = n := by omega
        go_wp2
        go_ret
        exact ⟨rfl, HP.out.be⟩
end Go.Proofs.Ytalgndgoedlpoaa
