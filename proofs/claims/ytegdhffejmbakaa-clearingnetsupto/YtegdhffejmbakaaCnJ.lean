/-
  The document's Netted.
-/
import Derived.Test.YtegdhffejmbakaaNf
namespace Go.Proofs.Ytegdhffejmbakaa.Ac
open Go.RowKit Go.Deep Go.Maps BigM MonM TexM Go.Proofs.Ytegdhffejmbakaa
set_option linter.unusedVariables false
set_option linter.unusedSimpArgs false
set_option maxHeartbeats 8000000
set_option maxRecDepth 100000
attribute [local go_sem ↓] Go.wp_at_zero Go.wp_at_succ
theorem rdeal_any (d : Dl) (w : World) : Calls Try.prog 19 #[dv d] w fun e w' => e = .returned (.int .i64 (terr d)) ∧ Below w.heap.size w w' := by
  obtain ⟨i, b, s, t, p, q⟩ := d
  obtain ⟨W, hW⟩ : ∃ W, w.alloc (.cells #[.int .u32 i, .int .u32 b, .int .u32 s, .int .i64 t, .int .i64 p, .int .u64 q] 26) = W := ⟨_, rfl⟩
  have BW := hid (show Below w.heap.size w W from by rw [← hW]; exact ball _ _)
  have RW := hid (show W.heap[w.heap.size]? = some (.cells #[.int .u32 i, .int .u32 b, .int .u32 s, .int .i64 t, .int .i64 p, .int .u64 q] 26 (0, 0)) from by rw [← hW]; exact World.alloc_heap_new _ _)
  have g4 := row_cell RW.out 4
  have g5 := row_cell RW.out 5
  simp only [List.getElem?_toArray, List.getElem?_cons_succ, List.getElem?_cons_zero] at g4 g5
  obtain ⟨r, hr⟩ : ∃ r, terr ⟨i, b, s, t, p, q⟩ = r := ⟨_, rfl⟩
  have HT := hid (show (if p < 0 ∨ 262144 ≤ p then 94 else if q < 1 ∨ 4294967295 < q then 95 else 0) = r from hr)
  rw [hr]
  clear hr
  unfold dv drow
  by_cases h1 : p < 0
  · have HE := hid (show (94 : Int) = r from by rw [← HT.out, if_pos (.inl h1)])
    go_enter Try.func19, Try.ntmps19
    go_wp2
    refine bodyPost_ret (v := .int .i64 94) (by simp [results, Try.results19, go_sem]) rfl ⟨by rw [HE.out], BW.out⟩
  · by_cases h2 : 262144 ≤ p
    · have HE := hid (show (94 : Int) = r from by rw [← HT.out, if_pos (.inr h2)])
      go_enter Try.func19, Try.ntmps19
      go_wp2
      refine bodyPost_ret (v := .int .i64 94) (by simp [results, Try.results19, go_sem]) rfl ⟨by rw [HE.out], BW.out⟩
    · by_cases h3 : q < 1
      · have HE := hid (show (95 : Int) = r from by rw [← HT.out, if_neg (by omega), if_pos (.inl h3)])
        go_enter Try.func19, Try.ntmps19
        go_wp2
        refine bodyPost_ret (v := .int .i64 95) (by simp [results, Try.results19, go_sem]) rfl ⟨by rw [HE.out], BW.out⟩
      · by_cases h4 : 4294967295 < q
        · have HE := hid (show (95 : Int) = r from by rw [← HT.out, if_neg (by omega), if_pos (.inr h4)])
          go_enter Try.func19, Try.ntmps19
          go_wp2
          refine bodyPost_ret (v := .int .i64 95) (by simp [results, Try.results19, go_sem]) rfl ⟨by rw [HE.out], BW.out⟩
        · have HE := hid (show (0 : Int) = r from by rw [← HT.out, if_neg (by omega), if_neg (by omega)])
          go_enter Try.func19, Try.ntmps19
          go_wp2
          refine bodyPost_ret (v := .int .i64 0) (by simp [results, Try.results19, go_sem]) rfl ⟨by rw [HE.out], BW.out⟩
theorem ecs_set (A B : List Ne) (x : Ne) (j : Nat) (hj : j < 6) {u : Value} : (ecs (A ++ x :: B)).set (A.length * 6 + j) u = ecs A ++ ((ece x).set j u ++ ecs B) := by
  rw [ecs_app, ecs_cons, List.set_append_right _ _ (by rw [ecs_len]; omega), ecs_len, List.set_append_left _ _ (by simp [ece]; omega)]
  congr 3
  omega
theorem ecs_set2 (A B : List Ne) (m i bo so a a' : Int) (b b' : Bool) (p p' : Option Addr) (n n' c c' : Nat) : ((ecs (A ++ (⟨m, i, bo, so, a, b, p, n, c⟩ : Ne) :: B)).set (A.length * 6 + 4) (.bool b')).set (A.length * 6 + 5) (.slice p' n' c') = ecs (A ++ (⟨m, i, bo, so, a', b', p', n', c'⟩ : Ne) :: B) := by
  rw [ecs_set A B _ 4 (by decide)]
  have e : ecs A ++ ((ece (⟨m, i, bo, so, a, b, p, n, c⟩ : Ne)).set 4 (.bool b') ++ ecs B) = ecs (A ++ (⟨m, i, bo, so, a, b', p, n, c⟩ : Ne) :: B) := by rw [ecs_app, ecs_cons]; rfl
  rw [e, ecs_set A B _ 5 (by decide), ecs_app, ecs_cons]
  rfl
def RNeP (base : Nat) (w' : World) (e : Ending) (l : List Dl) : Prop :=
  (nerr l ≠ 0 ∧ e = .returned (.tuple #[.slice none 0 0, .int .i64 (nerr l)])) ∨
  (nerr l = 0 ∧ ∃ (R : List Ne) (q : Option Addr) (d n : Nat), R.length = n ∧ e = .returned (.tuple #[.slice q n d, .int .i64 0]) ∧ RelN (nst (fun _ => none) l) (nev R) ∧ w'.ownsRow base 43 6 (.slice q n d) n (ecs R) ∧ emt w' R ∧ n ≤ 2 * l.length)
theorem rnetted_any {w : World} {p : Option Addr} {c : Nat} {l : List Dl} (hz : Lz w p l) (hok : ∀ x ∈ l, x.ok) (hm : l.length ≤ 900000000) :
    Calls Try.prog 6 #[.slice p l.length c] w fun e w' => RNeP w.heap.size w' e l ∧ Below w.heap.size w w' := by
  obtain ⟨n, hn⟩ : ∃ n, l.length = n := ⟨_, rfl⟩
  obtain ⟨b, hb⟩ : ∃ b, w.heap.size = b := ⟨_, rfl⟩
  have HB := hid hb
  have HZ := hid hz
  have HOK := hid hok
  have HN := hid hn
  have HM := hid (show n ≤ 900000000 from by rw [← hn]; exact hm)
  rw [hn, hb]
  clear hz hok hm hn hb
  go_enter Try.func6, Try.ntmps6
  go_upto_region 3 with fail
  go_loopw [4, 5] (fun ov iv wr => ∃ (i k d : Nat) (q : Option Addr) (R : List Ne) (f : Ks2), i ≤ n ∧ iv = .int .i64 (i : Nat) ∧ ov = .slice q k d ∧ Hid (R.length = k) ∧ Hid (k ≤ 2 * i) ∧ Hid (RelN f (nev R)) ∧ Hid (okF f) ∧ Hid (nerr (l.drop i) = nerr l) ∧ Hid (nst f (l.drop i) = nst (fun _ => none) l) ∧ Hid (wr.ownsRow b 43 6 (.slice q k d) k (ecs R)) ∧ Hid (emt wr R) ∧ Hid (Below b w wr)) (fun _ iv _ => n - (intOf iv).toNat)
  case atStart => exact ⟨0, 0, 0, none, [], (fun _ => none), Nat.zero_le _, rfl, rfl, rfl, Nat.le_refl _, ⟨List.Pairwise.nil, fun x h => (by cases h), fun m i v _ _ => ⟨fun h => (by cases h), fun h => (by cases h)⟩⟩, hid (fun x v e => by cases e), by rw [List.drop_zero]; exact rfl, by rw [List.drop_zero]; exact rfl, own_nil _ _ _ _, fun x h => (by cases h), by rw [← HB.out]; exact Below.refl _ _⟩
  case round =>
    obtain ⟨i, k, d, q, R, f0, hin, rfl, rfl, HK, HKI, HR, HOF, HNE, HNS, HO, HA, BW⟩ := hrel
    by_cases hlt : i < n
    · have hi' : i < l.length := by rw [HN.out]; exact hlt
      obtain ⟨z, off, rfl, hbl, hc⟩ := HZ.out i hi'
      have HOD := hid (HOK.out _ (List.getElem_mem hi'))
      have hdr : l.drop i = l[i] :: l.drop (i + 1) := List.drop_eq_getElem_cons hi'
      have HNE1 := hid (show nerr (l[i] :: l.drop (i + 1)) = nerr l from by rw [← hdr]; exact HNE.out)
      have HNS1 := hid (show nst f0 (l[i] :: l.drop (i + 1)) = nst (fun _ => none) l from by rw [← hdr]; exact HNS.out)
      clear hdr HNE HNS
      generalize l[i] = dd at hc HOD HNE1 HNS1
      have HNE := hid (show (if derr dd = 0 then nerr (l.drop (i + 1)) else derr dd) = nerr l from HNE1.out)
      have HNS := hid (show nst (dst f0 dd) (l.drop (i + 1)) = nst (fun _ => none) l from HNS1.out)
      clear HNE1 HNS1
      have CT0 := hid (fun U => rdeal_any dd U)
      have HTO := hid (fun h => terr_ok (d := dd) h)
      obtain ⟨er, her⟩ : ∃ x, terr dd = x := ⟨_, rfl⟩
      have HDE0 := hid (show derr dd = if dd.buy = 0 ∨ dd.sel = 0 then 200 else er from by rw [← her]; rfl)
      obtain ⟨dr, hdr⟩ : ∃ x, derr dd = x := ⟨_, rfl⟩
      rw [hdr] at HDE0 HNE
      rw [her] at CT0 HTO
      obtain ⟨ii, bu, se, tk, pr, qq⟩ := dd
      have HDE := hid (show dr = if bu = 0 ∨ se = 0 then 200 else er from HDE0.out)
      have HTK := hid (show er = 0 → (0 ≤ pr ∧ pr < 262144) ∧ 1 ≤ qq ∧ qq ≤ 4294967295 ∧ Amt (pr * qq) from HTO.out)
      clear HDE0 HTO
      have CT := hid (show ∀ U, Calls Try.prog 19 #[.agg #[.int .u32 ii, .int .u32 bu, .int .u32 se, .int .i64 tk, .int .i64 pr, .int .u64 qq]] U fun e w' => e = .returned (.int .i64 er) ∧ Below U.heap.size U w' from CT0.out)
      clear CT0
      have HUI := hid (show U32 ii from HOD.out.1)
      have HU1 := hid (show U32 bu from HOD.out.2.1)
      have HU2 := hid (show U32 se from HOD.out.2.2.1)
      have HNS2 := hid (show nst (selD (buyD f0 bu ii qq (pr * qq)) se ii qq (pr * qq)) (l.drop (i + 1)) = nst (fun _ => none) l from HNS.out)
      clear HNS
      have KC := fun j (hj : j < 6) => (BW.out.cell (p := ⟨z, off + i * 6 + j, none⟩) (by rw [← HB.out]; exact hbl)).trans (hc j hj)
      have c0 : wr.cell? ⟨z, off + i * 6, none⟩ = some (.int .u32 ii) := KC 0 (by decide)
      have c1 : wr.cell? ⟨z, off + i * 6 + 1, none⟩ = some (.int .u32 bu) := KC 1 (by decide)
      have c2 : wr.cell? ⟨z, off + i * 6 + 2, none⟩ = some (.int .u32 se) := KC 2 (by decide)
      have c3 : wr.cell? ⟨z, off + i * 6 + 3, none⟩ = some (.int .i64 tk) := KC 3 (by decide)
      have c4 : wr.cell? ⟨z, off + i * 6 + 4, none⟩ = some (.int .i64 pr) := KC 4 (by decide)
      have c5 : wr.cell? ⟨z, off + i * 6 + 5, none⟩ = some (.int .u64 qq) := KC 5 (by decide)
      clear KC hc
      have i0 : (0 : Int) ≤ (i : Int) := by omega
      have i1 : (i : Int) < (n : Int) := by omega
      have wi : IntKind.i64.wrap ((i : Int) + 1) = ((i + 1 : Nat) : Int) := by have := HM.out; rw [IntKind.wrap_i64]; omega
      have HLT := hid hlt
      have SB := hid (show b ≤ wr.heap.size from by rw [← HB.out]; exact BW.out.size)
      clear hlt hin hi' hbl her hdr HOD
      have HZR := hid (World.alloc_heap_new wr (.cells #[.int .u32 0, .int .u32 0, .int .u32 0, .int .i64 0, .int .i64 0, .int .u64 0] 26))
      go_upto_region 6 with (refine wpList_store_row (by rfl) 26 (.tmp 6) (.tmp 19) (by rfl) wr.heap.size #[.int .u32 ii, .int .u32 bu, .int .u32 se, .int .i64 tk, .int .i64 pr, .int .u64 qq] (by rfl) (by rfl) 26 _ HZR.out infoL6 (by rfl) (by simp [Value.oneCell']) ?_)
      obtain ⟨X, hX⟩ : ∃ X, (wr.alloc (.cells #[.int .u32 0, .int .u32 0, .int .u32 0, .int .i64 0, .int .i64 0, .int .u64 0] 26)).setRow wr.heap.size #[.int .u32 ii, .int .u32 bu, .int .u32 se, .int .i64 tk, .int .i64 pr, .int .u64 qq] = X := ⟨_, rfl⟩
      have GX := hid (show X.heap[wr.heap.size]? = some (.cells #[.int .u32 ii, .int .u32 bu, .int .u32 se, .int .i64 tk, .int .i64 pr, .int .u64 qq] 26 (0, 0)) from by rw [← hX]; exact setRow_heap _ _ _ _ 26 (0, 0) HZR.out)
      have BX := hid (show Below wr.heap.size wr X from by rw [← hX]; exact Dm.setRow_below (ball _ _) (Nat.le_refl _))
      rw [hX]
      obtain ⟨y, hy⟩ : ∃ y, wr.heap.size = y := ⟨_, rfl⟩
      rw [hy] at GX ⊢
      clear hX HZR hy c0 c1 c2 c3 c4 c5
      have BWX := hid (show Below b w X from BW.out.trans (BX.out.mono SB.out))
      have g0 := row_cell GX.out 0
      have g1 := row_cell GX.out 1
      have g2 := row_cell GX.out 2
      have g3 := row_cell GX.out 3
      have g4 := row_cell GX.out 4
      have g5 := row_cell GX.out 5
      simp only [List.getElem?_toArray, List.getElem?_cons_succ, List.getElem?_cons_zero] at g0 g1 g2 g3 g4 g5
      by_cases hbz : bu = 0
      · subst hbz
        go_wp2
        go_ret2
        refine ⟨.inl ?_, BWX.out⟩
        have h1 := HNE.out
        have h2 : dr = 200 := by rw [HDE.out]; simp
        rw [h2, if_neg (by decide)] at h1
        rw [← h1]
        exact ⟨by decide, rfl⟩
      · have e1 : (bu == 0) = false := by simpa using hbz
        by_cases hsz : se = 0
        · subst hsz
          go_wp2
          go_ret2
          refine ⟨.inl ?_, BWX.out⟩
          have h1 := HNE.out
          have h2 : dr = 200 := by rw [HDE.out]; simp
          rw [h2, if_neg (by decide)] at h1
          rw [← h1]
          exact ⟨by decide, rfl⟩
        · have e2 : (se == 0) = false := by simpa using hsz
          have HDR := hid (show dr = er from by rw [HDE.out, if_neg (by rintro (h | h); exact hbz h; exact hsz h)])
          go_upto_region 9 with (go_at_call 19; with_reducible refine (CT.out _).mono ?_; rintro e X2 ⟨rfl, h2⟩; have B2 := hid h2; clear h2)
          have GX2 := hid (row_on GX.out B2.out)
          clear g0 g1 g2 g3 g4 g5
          have g0 := row_cell GX2.out 0
          have g1 := row_cell GX2.out 1
          have g2 := row_cell GX2.out 2
          have g3 := row_cell GX2.out 3
          have g4 := row_cell GX2.out 4
          have g5 := row_cell GX2.out 5
          simp only [List.getElem?_toArray, List.getElem?_cons_succ, List.getElem?_cons_zero] at g0 g1 g2 g3 g4 g5
          have BX2 := hid (btr BX.out B2.out)
          have BWX2 := hid (show Below b w X2 from BW.out.trans (BX2.out.mono SB.out))
          by_cases hez : er = 0
          · have HTE := hid (HTK.out hez)
            have HNE2 := hid (show nerr (l.drop (i + 1)) = nerr l from by have h1 := HNE.out; rw [HDR.out, if_pos hez] at h1; exact h1)
            clear HNE HDE HDR HTK CT
            subst hez
            have p0 : 0 ≤ pr := HTE.out.1.1
            have p1 : pr < 262144 := HTE.out.1.2
            have wp : IntKind.u32.wrap pr = pr := by rw [IntKind.wrap_u32]; omega
            have CM := hid (fun U => Dm.rtimes_any pr qq U p0 (by omega) ⟨by have := HTE.out.2.1; omega, by have := HTE.out.2.2.1; omega⟩)
            have HAV := hid HTE.out.2.2.2
            obtain ⟨v, hv⟩ : ∃ v, pr * qq = v := ⟨_, rfl⟩
            rw [hv] at CM HAV HNS2
            clear hv p0 p1
            go_upto_region 12 with (first | (go_at_call 20; with_reducible refine (CM.out _).mono ?_; rintro e X3 ⟨⟨v0, rfl, h1⟩, h2⟩; obtain ⟨vb, vp, vn, vc, rfl⟩ := Dm.am_form h1; have A3 := hid h1; have B3 := hid h2; clear h1 h2; have HZ8 := hid (World.alloc_heap_new X3 (.cells #[.bool false, .slice none 0 0] 41))) | (refine wpList_store_row (by rfl) 41 (.tmp 8) (.tmp 38) (by rfl) X3.heap.size #[.bool vb, .slice vp vn vc] (by rfl) (by rfl) 41 _ HZ8.out infoA2 (by rfl) (by simp [Value.oneCell']) ?_))
            obtain ⟨W0, hW0⟩ : ∃ W, (X3.alloc (.cells #[.bool false, .slice none 0 0] 41)).setRow X3.heap.size #[.bool vb, .slice vp vn vc] = W := ⟨_, rfl⟩
            have GZ0 := hid (show W0.heap[X3.heap.size]? = some (.cells #[.bool vb, .slice vp vn vc] 41 (0, 0)) from by rw [← hW0]; exact setRow_heap _ _ _ _ 41 (0, 0) HZ8.out)
            have B0 := hid (show Below X3.heap.size X3 W0 from by rw [← hW0]; exact Dm.setRow_below (ball _ _) (Nat.le_refl _))
            rw [hW0]
            obtain ⟨y8, hy8⟩ : ∃ z, X3.heap.size = z := ⟨_, rfl⟩
            rw [hy8] at GZ0 ⊢
            clear hW0 hy8 HZ8 g0 g1 g2 g3 g4 g5 CM
            have GY0 := hid (row_on (row_on GX2.out B3.out) B0.out)
            have HV0 := hid (A3.out.on B0.out)
            have BR := hid (btr (btr BX2.out B3.out) B0.out)
            have BW0 := hid (show Below b w W0 from BW.out.trans (BR.out.mono SB.out))
            have SB0 := hid (show b ≤ W0.heap.size from by rw [← HB.out]; exact BW0.out.size)
            have HO0 := hid (own_on HO.out BR.out)
            have HE0 := hid (emt_on HA.out BR.out)
            have HR0 := hid HR.out
            have HK0 := hid HK.out
            have HF0 := hid HOF.out
            have LB0 := hid (show k ≤ 2 * i from HKI.out)
            have LK0 := hid (show k ≤ 2000000000 from by have := HKI.out; have := HLT.out; have := HM.out; omega)
            clear HO HA HR HK HOF GX GX2 A3 B3 B0 BR BX BX2 BWX BWX2 B2
            have g0 := row_cell GY0.out 0
            have g1 := row_cell GY0.out 1
            have g2 := row_cell GY0.out 2
            have g3 := row_cell GY0.out 3
            have g4 := row_cell GY0.out 4
            have g5 := row_cell GY0.out 5
            simp only [List.getElem?_toArray, List.getElem?_cons_succ, List.getElem?_cons_zero] at g0 g1 g2 g3 g4 g5
            go_upto_region 14 with (go_at_call 21; (with_reducible refine (put_any HO0.out HK0.out HE0.out HR0.out HU1.out HUI.out LK0.out SB0.out).mono ?_); rintro e X1 ⟨⟨A1, B1, x, q1, k1, d1, t1, p1, p2, rfl, p3, p4, p5, p6, p7, p8, p9⟩, pb⟩; have P11 := hid p1; have P21 := hid p2; have P3 := hid p3; have P4 := hid p4; have P5 := hid p5; have P6 := hid p6; have P7 := hid p7; have P8 := hid p8; have P9 := hid p9; have PB := hid pb; clear p1 p2 p3 p4 p5 p6 p7 p8 p9 pb)
            obtain ⟨xm, xi, bo1, so1, xa1, xb1, xp1, xn1, xc1⟩ := x
            have p6 : bu = xm := P6.out.symm
            have p7 : ii = xi := P7.out.symm
            subst p6
            subst p7
            clear P6 P7
            obtain ⟨G1, hG, hGb, hGW⟩ := own_some P3.out (by have := P21.out; omega)
            subst hG
            have HGb1 := hid hGb
            have HGT := hid (own_ty P3.out (g := G1) rfl)
            have GY1 := hid (row_on GY0.out PB.out)
            have GZ1 := hid (row_on GZ0.out PB.out)
            have HV1 := hid (HV0.out.on PB.out)
            have BX1 := hid (BW0.out.trans (PB.out.mono SB0.out))
            have NY1 := hid (show ¬ y = G1 from by obtain ⟨cur, e⟩ := HGT.out; exact row_ne GY1.out e (by decide))
            have NZ1 := hid (show ¬ y8 = G1 from by obtain ⟨cur, e⟩ := HGT.out; exact row_ne GZ1.out e (by decide))
            have HXO := hid (show Nv.ok ⟨bo1, so1, xa1⟩ from by have := HF0.out.get (bu, ii); rw [P8.out] at this; exact this)
            have tlt : (t1 : Int) < (k1 : Int) := by have := P11.out; have := P21.out; omega
            have kd1 : k1 ≤ d1 := (own_cap P3.out).1
            obtain ⟨nb1, hnb⟩ : ∃ z, (bo1 + qq) % 18446744073709551616 = z := ⟨_, rfl⟩
            obtain ⟨nv1, hnv⟩ : ∃ z, maddV xa1 (v) = z := ⟨_, rfl⟩
            obtain ⟨er, her⟩ : ∃ z, maddE xa1 (v) = z := ⟨_, rfl⟩
            have wb : IntKind.u64.wrap (bo1 + qq) = nb1 := by rw [IntKind.wrap_u64]; exact hnb
            have HNV := hid (show maddV xa1 (v) = nv1 ∧ Amt nv1 from ⟨hnv, by rw [← hnv]; exact madd_amt _ _⟩)
            have HNB := hid (show (bo1 + qq) % 18446744073709551616 = nb1 from hnb)
            have HER := hid her
            clear hnb hnv her hGb hGW HGT
            refine reg_cut (X := Unit) (fun a _ => ((((((((((((a.put (some 48) (.slice (some ⟨G1, 0, none⟩) k1 d1)).put (some 49) (.int .i64 t1)).put (some 50) (.slice (some ⟨G1, 0, none⟩) k1 d1)).put (some 51) (.int .i64 t1)).put (some 52) (.pointer (some ⟨G1, t1 * 6, none⟩))).put (some 53) (.pointer (some ⟨G1, t1 * 6 + 2, none⟩))).put (some 54) (.int .u64 bo1)).put (some 55) (.pointer (some ⟨y, 5, none⟩))).put (some 56) (.int .u64 qq)).put (some 57) (.int .u64 nb1)).put (some 58) (.pointer (some ⟨G1, t1 * 6, none⟩))).put (some 59) (.pointer (some ⟨G1, t1 * 6 + 2, none⟩)))) (fun _ V9 => Hid (Kp (fun j => j = G1) X1 V9) ∧ Hid (V9.ownsRow b 43 6 (.slice (some ⟨G1, 0, none⟩) k1 d1) k1 (ecs (A1 ++ ⟨bu, ii, nb1, so1, xa1, xb1, xp1, xn1, xc1⟩ :: B1)))) ?_ ?_
            · obtain ⟨V141, hV⟩ : ∃ U, X1.drew = U := ⟨_, rfl⟩
              have bv : Below X1.heap.size X1 V141 := by rw [← hV]; exact bdrew1 _
              have rY := hid (row_on GY1.out bv)
              have rO := hid (own_on P3.out bv)
              have kK := hid (Kp.of (fun j => j = G1) bv)
              refine wp_region_held_drew (S := (fun U => U.cell? ⟨y, 5, none⟩ = some (.int .u64 qq))) (by kernel_rfl) ?_ (fun hHeld => ?_)
              · (try dsimp only); rw [hV]; exact row_cell rY.out 5
              rw [hV] at hHeld ⊢
              clear hV bv
              refine' wpAnyH_take (i := 0) (oi := _) (v := _) rfl (by kernel_rfl) (by kernel_rfl) (by kernel_rfl) (fun _ _ _ h => h) (Or.inl ⟨by kernel_rfl, ?_⟩) (by assumption) ?_
              rotate_left
              · (intro w hSw; (try dsimp only at hSw); go_simp; try (with_reducible rfl))
              try simp only [List.getElem_toArray, List.getElem_cons_succ, List.getElem_cons_zero, Act.put, List.setIfInBounds_toArray, List.set_cons_zero, List.set_cons_succ]
              refine' wpAnyH_take (i := 1) (oi := _) (v := _) rfl (by kernel_rfl) (by kernel_rfl) (by kernel_rfl) (fun _ _ _ h => h) (Or.inl ⟨by kernel_rfl, ?_⟩) (by assumption) ?_
              rotate_left
              · (intro w hSw; (try dsimp only at hSw); go_simp; try (with_reducible rfl))
              try simp only [List.getElem_toArray, List.getElem_cons_succ, List.getElem_cons_zero, Act.put, List.setIfInBounds_toArray, List.set_cons_zero, List.set_cons_succ]
              refine' wpAnyH_take (i := 2) (oi := _) (v := _) rfl (by kernel_rfl) (by kernel_rfl) (by kernel_rfl) (fun _ _ _ h => h) (Or.inl ⟨by kernel_rfl, ?_⟩) (by assumption) ?_
              rotate_left
              · (intro w hSw; (try dsimp only at hSw); go_simp; try (with_reducible rfl))
              try simp only [List.getElem_toArray, List.getElem_cons_succ, List.getElem_cons_zero, Act.put, List.setIfInBounds_toArray, List.set_cons_zero, List.set_cons_succ]
              refine' wpAnyH_take (i := 3) (oi := _) (v := _) rfl (by kernel_rfl) (by kernel_rfl) (by kernel_rfl) (fun _ _ _ h => h) (Or.inl ⟨by kernel_rfl, ?_⟩) (by assumption) ?_
              rotate_left
              · (intro w hSw; (try dsimp only at hSw); go_simp; try (with_reducible rfl))
              try simp only [List.getElem_toArray, List.getElem_cons_succ, List.getElem_cons_zero, Act.put, List.setIfInBounds_toArray, List.set_cons_zero, List.set_cons_succ]
              refine' wpAnyH_take (i := 4) (oi := _) (v := _) rfl (by kernel_rfl) (by kernel_rfl) (by kernel_rfl) (fun _ _ _ h => h) (Or.inl ⟨by kernel_rfl, ?_⟩) (by assumption) ?_
              rotate_left
              · (intro w hSw; (try dsimp only at hSw); go_simp; try (with_reducible rfl))
              try simp only [List.getElem_toArray, List.getElem_cons_succ, List.getElem_cons_zero, Act.put, List.setIfInBounds_toArray, List.set_cons_zero, List.set_cons_succ]
              refine' wpAnyH_take (i := 5) (oi := _) (v := _) rfl (by kernel_rfl) (by kernel_rfl) (by kernel_rfl) (fun _ _ _ h => h) (Or.inl ⟨by kernel_rfl, ?_⟩) (by assumption) ?_
              rotate_left
              · (intro w hSw; (try dsimp only at hSw); go_simp; try (with_reducible rfl))
              try simp only [List.getElem_toArray, List.getElem_cons_succ, List.getElem_cons_zero, Act.put, List.setIfInBounds_toArray, List.set_cons_zero, List.set_cons_succ]
              refine' wpAnyH_take (i := 7) (oi := _) (v := _) rfl (by kernel_rfl) (by kernel_rfl) (by kernel_rfl) (fun _ _ _ h => h) (Or.inl ⟨by kernel_rfl, ?_⟩) (by assumption) ?_
              rotate_left
              · (intro w hSw; (try dsimp only at hSw); go_simp; try (with_reducible rfl))
              try simp only [List.getElem_toArray, List.getElem_cons_succ, List.getElem_cons_zero, Act.put, List.setIfInBounds_toArray, List.set_cons_zero, List.set_cons_succ]
              refine' wpAnyH_take (i := 8) (oi := _) (v := _) rfl (by kernel_rfl) (by kernel_rfl) (by kernel_rfl) (fun _ _ _ h => h) (Or.inl ⟨by kernel_rfl, ?_⟩) (by assumption) ?_
              rotate_left
              · (intro w hSw; (try dsimp only at hSw); go_simp; try (with_reducible rfl))
              try simp only [List.getElem_toArray, List.getElem_cons_succ, List.getElem_cons_zero, Act.put, List.setIfInBounds_toArray, List.set_cons_zero, List.set_cons_succ]
              refine wpAnyH_ready (rs := [6]) (by kernel_rfl) (by simp) ?_
              refine (AllReadyH.cons (o := _) rfl (fun K hK => ?_) AllReadyH.nil)
              have z2 : V141.cell? ⟨G1, t1 * 6 + 2, none⟩ = some (.int .u64 bo1) := by have h1 := (Dm.own_cells rO.out).2 (A1.length * 6 + 2) (.int .u64 bo1) (ecs_at A1 B1 ⟨bu, ii, bo1, so1, xa1, xb1, xp1, xn1, xc1⟩ 2 (by decide)); rw [Addr.add_lit, Nat.zero_add, P11.out] at h1; exact h1
              go_simp
              refine hK.out _ _ ?_ (fun hHeld => ?_)
              · (try dsimp only); exact row_cell rY.out 5
              clear hK K z2
              try simp only [List.getElem_toArray, List.getElem_cons_succ, List.getElem_cons_zero, Act.put, List.setIfInBounds_toArray, List.set_cons_zero, List.set_cons_succ]
              refine' wpAnyH_take (i := 9) (oi := _) (v := _) rfl (by kernel_rfl) (by kernel_rfl) (by kernel_rfl) (fun _ _ _ h => h) (Or.inl ⟨by kernel_rfl, ?_⟩) (by assumption) ?_
              rotate_left
              · (intro w hSw; (try dsimp only at hSw); go_simp; try (with_reducible rfl))
              try simp only [List.getElem_toArray, List.getElem_cons_succ, List.getElem_cons_zero, Act.put, List.setIfInBounds_toArray, List.set_cons_zero, List.set_cons_succ]
              refine' wpAnyH_take (i := 10) (oi := _) (v := _) rfl (by kernel_rfl) (by kernel_rfl) (by kernel_rfl) (fun _ _ _ h => h) (Or.inl ⟨by kernel_rfl, ?_⟩) (by assumption) ?_
              rotate_left
              · (intro w hSw; (try dsimp only at hSw); go_simp; try (with_reducible rfl))
              try simp only [List.getElem_toArray, List.getElem_cons_succ, List.getElem_cons_zero, Act.put, List.setIfInBounds_toArray, List.set_cons_zero, List.set_cons_succ]
              refine' wpAnyH_take (i := 11) (oi := _) (v := _) rfl (by kernel_rfl) (by kernel_rfl) (by kernel_rfl) (fun _ _ _ h => h) (Or.inl ⟨by kernel_rfl, ?_⟩) (by assumption) ?_
              rotate_left
              · (intro w hSw; (try dsimp only at hSw); go_simp; try (with_reducible rfl))
              try simp only [List.getElem_toArray, List.getElem_cons_succ, List.getElem_cons_zero, Act.put, List.setIfInBounds_toArray, List.set_cons_zero, List.set_cons_succ]
              refine wpAnyH_ready (rs := [12]) (by kernel_rfl) (by simp) ?_
              refine (AllReadyH.cons (o := _) rfl (fun K hK => ?_) AllReadyH.nil)
              have z2 : V141.cell? ⟨G1, t1 * 6 + 2, none⟩ = some (.int .u64 bo1) := by have h1 := (Dm.own_cells rO.out).2 (A1.length * 6 + 2) (.int .u64 bo1) (ecs_at A1 B1 ⟨bu, ii, bo1, so1, xa1, xb1, xp1, xn1, xc1⟩ 2 (by decide)); rw [Addr.add_lit, Nat.zero_add, P11.out] at h1; exact h1
              have f0 := own_frz rO.out (t1 * 6 + 2)
              go_simp
              obtain ⟨Y1, hY⟩ : ∃ Z9, V141.setCell ⟨G1, t1 * 6 + 2, none⟩ (.int .u64 nb1) = Z9 := ⟨_, rfl⟩
              have kx := hid (show Kp (fun j => j = G1) V141 Y1 from by rw [← hY]; exact Kp.set _ _ _ _)
              have eL : (ecs (A1 ++ (⟨bu, ii, bo1, so1, xa1, xb1, xp1, xn1, xc1⟩ : Ne) :: B1)).set (t1 * 6 + 2) (.int .u64 nb1) = ecs (A1 ++ (⟨bu, ii, nb1, so1, xa1, xb1, xp1, xn1, xc1⟩ : Ne) :: B1) := by rw [← P11.out, ecs_set _ _ _ 2 (by decide), ecs_app, ecs_cons]; rfl
              have rO1 := hid (show Y1.ownsRow b 43 6 (.slice (some ⟨G1, 0, none⟩) k1 d1) k1 (ecs (A1 ++ ⟨bu, ii, nb1, so1, xa1, xb1, xp1, xn1, xc1⟩ :: B1)) from by rw [← hY]; have h1 := own_setc rO.out (t1 * 6 + 2) (.int .u64 nb1); rw [eL] at h1; exact h1)
              have rY1 := hid (kx.out.row rY.out NY1.out)
              have kK1 := hid (kK.out.trans kx.out (fun g _ e => e))
              rw [hY]
              refine hK.out _ _ ?_ (fun hHeld => ?_)
              · (try dsimp only); exact row_cell rY1.out 5
              clear hK K z2 f0 hY kx eL
              try simp only [List.getElem_toArray, List.getElem_cons_succ, List.getElem_cons_zero, Act.put, List.setIfInBounds_toArray, List.set_cons_zero, List.set_cons_succ]
              refine wpAnyH_done (by kernel_rfl) ?_ _
              exact ⟨(), by kernel_rfl, kK1, rO1⟩
            · rintro _ Y1 ⟨KY, HOY⟩
              try simp only [List.getElem_toArray, List.getElem_cons_succ, List.getElem_cons_zero, Act.put, List.setIfInBounds_toArray, List.set_cons_zero, List.set_cons_succ]
              have HEY := hid (show emt Y1 (A1 ++ ⟨bu, ii, nb1, so1, xa1, xb1, xp1, xn1, xc1⟩ :: B1) from by
                have hd : Dg X1 Y1 := Dg.kp KY.out (e := 43) (by decide) (fun g _ e => by subst e; exact own_ty P3.out rfl)
                intro x hx
                rcases List.mem_append.1 hx with hx | hx
                · exact am_dg (P4.out x (List.mem_append_left _ hx)) hd
                · rcases List.mem_cons.1 hx with rfl | hx
                  · exact am_dg (P4.out ⟨bu, ii, bo1, so1, xa1, xb1, xp1, xn1, xc1⟩ (by simp)) hd
                  · exact am_dg (P4.out x (List.mem_append_right _ (List.mem_cons_of_mem _ hx))) hd)
              have GYy := hid (KY.out.row GY1.out NY1.out)
              have GZy := hid (KY.out.row GZ1.out NZ1.out)
              have HVy := hid (am_dg HV1.out (Dg.kp KY.out (e := 43) (by decide) (fun g _ e => by subst e; exact own_ty P3.out rfl)))
              have BY1 := hid (BX1.out.trans (KY.out.below (by rw [← HB.out]; exact BX1.out.size) (fun j hj e => by have := HGb1.out; omega)))
              have CA := hid (show ∀ U, Below Y1.heap.size Y1 U → Calls Try.prog 22 #[.agg #[.bool xb1, .slice xp1 xn1 xc1], .agg #[.bool vb, .slice vp vn vc]] U fun e w' => Dm.Ans w' e nv1 er ∧ Below U.heap.size U w' from fun U hU => by rw [← HNV.out.1, ← HER.out]; exact Dm.radd_any _ _ xa1 v U ((HEY.out ⟨bu, ii, nb1, so1, xa1, xb1, xp1, xn1, xc1⟩ (by simp)).on hU) (HVy.out.on hU) HXO.out.1 HAV.out)
              clear P4 PB
              go_upto_region 15 with fail
              refine reg_cut (X := Bool × Option Addr × Nat × Nat) (fun a t => ((((((((((((((a.put (some 61) (.slice (some ⟨G1, 0, none⟩) k1 d1)).put (some 62) (.int .i64 t1)).put (some 63) (.slice (some ⟨G1, 0, none⟩) k1 d1)).put (some 64) (.int .i64 t1)).put (some 65) (.pointer (some ⟨G1, t1 * 6, none⟩))).put (some 66) (.pointer (some ⟨G1, t1 * 6 + 4, none⟩))).put (some 67) (.agg #[.bool xb1, .slice xp1 xn1 xc1])).put (some 68) (.agg #[.bool vb, .slice vp vn vc])).put (some 69) (.tuple #[.agg #[.bool t.1, .slice t.2.1 t.2.2.1 t.2.2.2], .int .i64 er])).put (some 60) (.tuple #[.agg #[.bool t.1, .slice t.2.1 t.2.2.1 t.2.2.2], .int .i64 er])).put (some 70) (.agg #[.bool t.1, .slice t.2.1 t.2.2.1 t.2.2.2])).put (some 71) (.int .i64 er)).put (some 72) (.pointer (some ⟨G1, t1 * 6, none⟩))).put (some 73) (.pointer (some ⟨G1, t1 * 6 + 4, none⟩)))) (fun t V9 => Hid (Kp (fun j => j = G1) Y1 V9) ∧ Hid (V9.ownsRow b 43 6 (.slice (some ⟨G1, 0, none⟩) k1 d1) k1 (ecs (A1 ++ ⟨bu, ii, nb1, so1, nv1, t.1, t.2.1, t.2.2.1, t.2.2.2⟩ :: B1))) ∧ Hid (Dm.Am V9 (.agg #[.bool t.1, .slice t.2.1 t.2.2.1 t.2.2.2]) nv1)) ?_ ?_
              · obtain ⟨V151, hV⟩ : ∃ U, Y1.drew = U := ⟨_, rfl⟩
                have bv : Below Y1.heap.size Y1 V151 := by rw [← hV]; exact bdrew1 _
                have rZ := hid (row_on GZy.out bv)
                have rO := hid (own_on HOY.out bv)
                have kK := hid (Kp.of (fun j => j = G1) bv)
                have BV := hid bv
                refine wp_region_held_drew (S := (fun U => U.cell? ⟨y8, 0, none⟩ = some (.bool vb) ∧ U.cell? ⟨y8, 1, none⟩ = some (.slice vp vn vc))) (by kernel_rfl) ?_ (fun hHeld => ?_)
                · (try dsimp only); rw [hV]; exact ⟨row_cell rZ.out 0, row_cell rZ.out 1⟩
                rw [hV] at hHeld ⊢
                clear hV bv
                refine' wpAnyH_take (i := 0) (oi := _) (v := _) rfl (by kernel_rfl) (by kernel_rfl) (by kernel_rfl) (fun _ _ _ h => h) (Or.inl ⟨by kernel_rfl, ?_⟩) (by assumption) ?_
                rotate_left
                · (intro w hSw; (try dsimp only at hSw); go_simp; try (with_reducible rfl))
                try simp only [List.getElem_toArray, List.getElem_cons_succ, List.getElem_cons_zero, Act.put, List.setIfInBounds_toArray, List.set_cons_zero, List.set_cons_succ]
                refine' wpAnyH_take (i := 1) (oi := _) (v := _) rfl (by kernel_rfl) (by kernel_rfl) (by kernel_rfl) (fun _ _ _ h => h) (Or.inl ⟨by kernel_rfl, ?_⟩) (by assumption) ?_
                rotate_left
                · (intro w hSw; (try dsimp only at hSw); go_simp; try (with_reducible rfl))
                try simp only [List.getElem_toArray, List.getElem_cons_succ, List.getElem_cons_zero, Act.put, List.setIfInBounds_toArray, List.set_cons_zero, List.set_cons_succ]
                refine' wpAnyH_take (i := 2) (oi := _) (v := _) rfl (by kernel_rfl) (by kernel_rfl) (by kernel_rfl) (fun _ _ _ h => h) (Or.inl ⟨by kernel_rfl, ?_⟩) (by assumption) ?_
                rotate_left
                · (intro w hSw; (try dsimp only at hSw); go_simp; try (with_reducible rfl))
                try simp only [List.getElem_toArray, List.getElem_cons_succ, List.getElem_cons_zero, Act.put, List.setIfInBounds_toArray, List.set_cons_zero, List.set_cons_succ]
                refine' wpAnyH_take (i := 3) (oi := _) (v := _) rfl (by kernel_rfl) (by kernel_rfl) (by kernel_rfl) (fun _ _ _ h => h) (Or.inl ⟨by kernel_rfl, ?_⟩) (by assumption) ?_
                rotate_left
                · (intro w hSw; (try dsimp only at hSw); go_simp; try (with_reducible rfl))
                try simp only [List.getElem_toArray, List.getElem_cons_succ, List.getElem_cons_zero, Act.put, List.setIfInBounds_toArray, List.set_cons_zero, List.set_cons_succ]
                refine' wpAnyH_take (i := 4) (oi := _) (v := _) rfl (by kernel_rfl) (by kernel_rfl) (by kernel_rfl) (fun _ _ _ h => h) (Or.inl ⟨by kernel_rfl, ?_⟩) (by assumption) ?_
                rotate_left
                · (intro w hSw; (try dsimp only at hSw); go_simp; try (with_reducible rfl))
                try simp only [List.getElem_toArray, List.getElem_cons_succ, List.getElem_cons_zero, Act.put, List.setIfInBounds_toArray, List.set_cons_zero, List.set_cons_succ]
                refine' wpAnyH_take (i := 5) (oi := _) (v := _) rfl (by kernel_rfl) (by kernel_rfl) (by kernel_rfl) (fun _ _ _ h => h) (Or.inl ⟨by kernel_rfl, ?_⟩) (by assumption) ?_
                rotate_left
                · (intro w hSw; (try dsimp only at hSw); go_simp; try (with_reducible rfl))
                try simp only [List.getElem_toArray, List.getElem_cons_succ, List.getElem_cons_zero, Act.put, List.setIfInBounds_toArray, List.set_cons_zero, List.set_cons_succ]
                refine' wpAnyH_take (i := 7) (oi := _) (v := _) rfl (by kernel_rfl) (by kernel_rfl) (by kernel_rfl) (fun _ _ _ h => h) (Or.inl ⟨by kernel_rfl, ?_⟩) (by assumption) ?_
                rotate_left
                · (intro w hSw; (try dsimp only at hSw); go_simp; try (with_reducible rfl))
                try simp only [List.getElem_toArray, List.getElem_cons_succ, List.getElem_cons_zero, Act.put, List.setIfInBounds_toArray, List.set_cons_zero, List.set_cons_succ]
                refine wpAnyH_ready (rs := [6]) (by kernel_rfl) (by simp) ?_
                refine (AllReadyH.cons (o := _) rfl (fun K hK => ?_) AllReadyH.nil)
                have z4 : V151.cell? ⟨G1, t1 * 6 + 4, none⟩ = some (.bool xb1) := by have h1 := (Dm.own_cells rO.out).2 (A1.length * 6 + 4) (.bool xb1) (ecs_at A1 B1 ⟨bu, ii, nb1, so1, xa1, xb1, xp1, xn1, xc1⟩ 4 (by decide)); rw [Addr.add_lit, Nat.zero_add, P11.out] at h1; exact h1
                have z5 : V151.cell? ⟨G1, t1 * 6 + 5, none⟩ = some (.slice xp1 xn1 xc1) := by have h1 := (Dm.own_cells rO.out).2 (A1.length * 6 + 5) (.slice xp1 xn1 xc1) (ecs_at A1 B1 ⟨bu, ii, nb1, so1, xa1, xb1, xp1, xn1, xc1⟩ 5 (by decide)); rw [Addr.add_lit, Nat.zero_add, P11.out] at h1; exact h1
                go_simp
                refine hK.out _ _ ?_ (fun hHeld => ?_)
                · (try dsimp only); exact ⟨row_cell rZ.out 0, row_cell rZ.out 1⟩
                clear hK K z4 z5
                try simp only [List.getElem_toArray, List.getElem_cons_succ, List.getElem_cons_zero, Act.put, List.setIfInBounds_toArray, List.set_cons_zero, List.set_cons_succ]
                refine wpAnyH_ready (rs := [8]) (by kernel_rfl) (by simp) ?_
                refine (AllReadyH.cons (o := _) rfl (fun K hK => ?_) AllReadyH.nil)
                go_simp
                go_at_call 22
                with_reducible refine (CA.out _ BV.out).mono ?_
                rintro e Z ⟨⟨r9, a9, n9, c9, rfl, h9⟩, Db⟩
                have HA9 := hid h9
                have rZ1 := hid (row_on rZ.out Db)
                have rO1 := hid (own_on rO.out Db)
                have kK1 := hid (kK.out.trans (Kp.of (fun j => j = G1) Db) (fun g _ e => e))
                clear h9 Db
                (try go_wp2_with fail)
                refine hK.out _ _ ?_ (fun hHeld => ?_)
                · (try dsimp only); exact ⟨row_cell rZ1.out 0, row_cell rZ1.out 1⟩
                clear hK K
                try simp only [List.getElem_toArray, List.getElem_cons_succ, List.getElem_cons_zero, Act.put, List.setIfInBounds_toArray, List.set_cons_zero, List.set_cons_succ]
                refine' wpAnyH_take (i := 9) (oi := _) (v := _) rfl (by kernel_rfl) (by kernel_rfl) (by kernel_rfl) (fun _ _ _ h => h) (Or.inl ⟨by kernel_rfl, ?_⟩) (by assumption) ?_
                rotate_left
                · (intro w hSw; (try dsimp only at hSw); go_simp; try (with_reducible rfl))
                try simp only [List.getElem_toArray, List.getElem_cons_succ, List.getElem_cons_zero, Act.put, List.setIfInBounds_toArray, List.set_cons_zero, List.set_cons_succ]
                refine' wpAnyH_take (i := 10) (oi := _) (v := _) rfl (by kernel_rfl) (by kernel_rfl) (by kernel_rfl) (fun _ _ _ h => h) (Or.inl ⟨by kernel_rfl, ?_⟩) (by assumption) ?_
                rotate_left
                · (intro w hSw; (try dsimp only at hSw); go_simp; try (with_reducible rfl))
                try simp only [List.getElem_toArray, List.getElem_cons_succ, List.getElem_cons_zero, Act.put, List.setIfInBounds_toArray, List.set_cons_zero, List.set_cons_succ]
                refine' wpAnyH_take (i := 11) (oi := _) (v := _) rfl (by kernel_rfl) (by kernel_rfl) (by kernel_rfl) (fun _ _ _ h => h) (Or.inl ⟨by kernel_rfl, ?_⟩) (by assumption) ?_
                rotate_left
                · (intro w hSw; (try dsimp only at hSw); go_simp; try (with_reducible rfl))
                try simp only [List.getElem_toArray, List.getElem_cons_succ, List.getElem_cons_zero, Act.put, List.setIfInBounds_toArray, List.set_cons_zero, List.set_cons_succ]
                refine' wpAnyH_take (i := 12) (oi := _) (v := _) rfl (by kernel_rfl) (by kernel_rfl) (by kernel_rfl) (fun _ _ _ h => h) (Or.inl ⟨by kernel_rfl, ?_⟩) (by assumption) ?_
                rotate_left
                · (intro w hSw; (try dsimp only at hSw); go_simp; try (with_reducible rfl))
                try simp only [List.getElem_toArray, List.getElem_cons_succ, List.getElem_cons_zero, Act.put, List.setIfInBounds_toArray, List.set_cons_zero, List.set_cons_succ]
                refine' wpAnyH_take (i := 13) (oi := _) (v := _) rfl (by kernel_rfl) (by kernel_rfl) (by kernel_rfl) (fun _ _ _ h => h) (Or.inl ⟨by kernel_rfl, ?_⟩) (by assumption) ?_
                rotate_left
                · (intro w hSw; (try dsimp only at hSw); go_simp; try (with_reducible rfl))
                try simp only [List.getElem_toArray, List.getElem_cons_succ, List.getElem_cons_zero, Act.put, List.setIfInBounds_toArray, List.set_cons_zero, List.set_cons_succ]
                refine wpAnyH_ready (rs := [14]) (by kernel_rfl) (by simp) ?_
                refine (AllReadyH.cons (o := _) rfl (fun K hK => ?_) AllReadyH.nil)
                have z4 : Z.cell? ⟨G1, t1 * 6 + 4, none⟩ = some (.bool xb1) := by have h1 := (Dm.own_cells rO1.out).2 (A1.length * 6 + 4) (.bool xb1) (ecs_at A1 B1 ⟨bu, ii, nb1, so1, xa1, xb1, xp1, xn1, xc1⟩ 4 (by decide)); rw [Addr.add_lit, Nat.zero_add, P11.out] at h1; exact h1
                have z5 : Z.cell? ⟨G1, t1 * 6 + 5, none⟩ = some (.slice xp1 xn1 xc1) := by have h1 := (Dm.own_cells rO1.out).2 (A1.length * 6 + 5) (.slice xp1 xn1 xc1) (ecs_at A1 B1 ⟨bu, ii, nb1, so1, xa1, xb1, xp1, xn1, xc1⟩ 5 (by decide)); rw [Addr.add_lit, Nat.zero_add, P11.out] at h1; exact h1
                have f4 := own_frz rO1.out (t1 * 6 + 4)
                have f5 := own_frz rO1.out (t1 * 6 + 5)
                go_simp
                obtain ⟨Y1, hY⟩ : ∃ Z9, (Z.setCell ⟨G1, t1 * 6 + 4, none⟩ (.bool r9)).setCell ⟨G1, t1 * 6 + 5, none⟩ (.slice a9 n9 c9) = Z9 := ⟨_, rfl⟩
                have kx := hid (show Kp (fun j => j = G1) Z Y1 from by rw [← hY]; exact (Kp.set Z G1 _ _).trans (Kp.set _ G1 _ _) (fun g _ e => e))
                have eL : ((ecs (A1 ++ (⟨bu, ii, nb1, so1, xa1, xb1, xp1, xn1, xc1⟩ : Ne) :: B1)).set (t1 * 6 + 4) (.bool r9)).set (t1 * 6 + 5) (.slice a9 n9 c9) = ecs (A1 ++ (⟨bu, ii, nb1, so1, nv1, r9, a9, n9, c9⟩ : Ne) :: B1) := by rw [← P11.out]; exact ecs_set2 _ _ _ _ _ _ _ _ _ _ _ _ _ _ _ _
                have rO2 := hid (show Y1.ownsRow b 43 6 (.slice (some ⟨G1, 0, none⟩) k1 d1) k1 (ecs (A1 ++ ⟨bu, ii, nb1, so1, nv1, r9, a9, n9, c9⟩ :: B1)) from by rw [← hY]; have h1 := own_setc (own_setc rO1.out (t1 * 6 + 4) (.bool r9)) (t1 * 6 + 5) (.slice a9 n9 c9); rw [eL] at h1; exact h1)
                have rZ2 := hid (kx.out.row rZ1.out NZ1.out)
                have kK2 := hid (kK1.out.trans kx.out (fun g _ e => e))
                have HB9 := hid (am_dg HA9.out (Dg.kp kx.out (e := 43) (by decide) (fun g _ e => by subst e; exact own_ty rO1.out rfl)))
                rw [hY]
                refine hK.out _ _ ?_ (fun hHeld => ?_)
                · (try dsimp only); exact ⟨row_cell rZ2.out 0, row_cell rZ2.out 1⟩
                clear hK K z4 z5 f4 f5 hY kx eL
                try simp only [List.getElem_toArray, List.getElem_cons_succ, List.getElem_cons_zero, Act.put, List.setIfInBounds_toArray, List.set_cons_zero, List.set_cons_succ]
                refine wpAnyH_done (by kernel_rfl) ?_ _
                exact ⟨(r9, a9, n9, c9), by kernel_rfl, kK2, rO2, HB9⟩
              · rintro ⟨r9, a9, n9, c9⟩ W1 ⟨KZ, HO1, HAZ⟩
                dsimp only at KZ HO1 HAZ ⊢
                try simp only [List.getElem_toArray, List.getElem_cons_succ, List.getElem_cons_zero, Act.put, List.setIfInBounds_toArray, List.set_cons_zero, List.set_cons_succ]
                have HDZ := hid (show Dg Y1 W1 from Dg.kp KZ.out (e := 43) (by decide) (fun g _ e => by subst e; exact own_ty HOY.out rfl))
                have HE1 := hid (show emt W1 (A1 ++ ⟨bu, ii, nb1, so1, nv1, r9, a9, n9, c9⟩ :: B1) from by
                  intro x hx
                  rcases List.mem_append.1 hx with hx | hx
                  · exact am_dg (HEY.out x (List.mem_append_left _ hx)) HDZ.out
                  · rcases List.mem_cons.1 hx with rfl | hx
                    · exact HAZ.out
                    · exact am_dg (HEY.out x (List.mem_append_right _ (List.mem_cons_of_mem _ hx))) HDZ.out)
                have GY1 := hid (KZ.out.row GYy.out NY1.out)
                have GZ1 := hid (KZ.out.row GZy.out NZ1.out)
                have HV1 := hid (am_dg HVy.out HDZ.out)
                have BW1 := hid (BY1.out.trans (KZ.out.below (by rw [← HB.out]; exact BY1.out.size) (fun j hj e => by have := HGb1.out; omega)))
                have SB1 := hid (show b ≤ W1.heap.size from by rw [← HB.out]; exact BW1.out.size)
                have HK1 := hid (show (A1 ++ (⟨bu, ii, nb1, so1, nv1, r9, a9, n9, c9⟩ : Ne) :: B1).length = k1 from by rw [← P21.out]; simp; omega)
                have LK1 := hid (show k1 ≤ 2000000000 from by have := P5.out; have := HLT.out; have := HM.out; have := LB0.out; omega)
                have LB1 := hid (show k1 ≤ 2 * i + 1 from by have := P5.out; have := LB0.out; omega)
                have FE1 := hid (show buyD f0 bu ii qq v = upd f0 (bu, ii) ⟨nb1, so1, nv1⟩ from by
                  unfold buyD
                  rw [P8.out]
                  dsimp only
                  rw [HNB.out, HNV.out.1])
                have HR1 := hid (show RelN (buyD f0 bu ii qq v) (nev (A1 ++ ⟨bu, ii, nb1, so1, nv1, r9, a9, n9, c9⟩ :: B1)) from by
                  rw [FE1.out]
                  have h1 := P9.out ⟨nb1, so1, nv1⟩ ⟨HNV.out.2, ⟨by have := HNB.out; dsimp only; omega, by have := HNB.out; dsimp only; omega⟩, HXO.out.2.2⟩
                  rw [nev_app]
                  exact h1)
                have HF1 := hid (HF0.out.buy bu ii qq v)
                obtain ⟨f1, hf1⟩ : ∃ z, buyD f0 bu ii qq v = z := ⟨_, rfl⟩
                rw [hf1] at HR1 HF1
                have HFE1 := hid hf1
                clear hf1 FE1 P3 P5 P8 P9 HXO HNV HNB HER HEY HAZ HDZ CA KY KZ HOY GYy GZy HVy tlt wb
                clear g0 g1 g2 g3 g4 g5
                have g0 := row_cell GY1.out 0
                have g1 := row_cell GY1.out 1
                have g2 := row_cell GY1.out 2
                have g3 := row_cell GY1.out 3
                have g4 := row_cell GY1.out 4
                have g5 := row_cell GY1.out 5
                simp only [List.getElem?_toArray, List.getElem?_cons_succ, List.getElem?_cons_zero] at g0 g1 g2 g3 g4 g5
                go_upto_region 17 with (go_at_call 21; (with_reducible refine (put_any HO1.out HK1.out HE1.out HR1.out HU2.out HUI.out LK1.out SB1.out).mono ?_); rintro e X2 ⟨⟨A2, B2, x, q2, k2, d2, t2, p1, p2, rfl, p3, p4, p5, p6, p7, p8, p9⟩, pb⟩; have P12 := hid p1; have P22 := hid p2; have P3 := hid p3; have P4 := hid p4; have P5 := hid p5; have P6 := hid p6; have P7 := hid p7; have P8 := hid p8; have P9 := hid p9; have PB := hid pb; clear p1 p2 p3 p4 p5 p6 p7 p8 p9 pb)
                obtain ⟨xm, xi, bo2, so2, xa2, xb2, xp2, xn2, xc2⟩ := x
                have p6 : se = xm := P6.out.symm
                have p7 : ii = xi := P7.out.symm
                subst p6
                subst p7
                clear P6 P7
                obtain ⟨G2, hG, hGb, hGW⟩ := own_some P3.out (by have := P22.out; omega)
                subst hG
                have HGb2 := hid hGb
                have HGT := hid (own_ty P3.out (g := G2) rfl)
                have GY2 := hid (row_on GY1.out PB.out)
                have GZ2 := hid (row_on GZ1.out PB.out)
                have HV2 := hid (HV1.out.on PB.out)
                have BX2 := hid (BW1.out.trans (PB.out.mono SB1.out))
                have NY2 := hid (show ¬ y = G2 from by obtain ⟨cur, e⟩ := HGT.out; exact row_ne GY2.out e (by decide))
                have NZ2 := hid (show ¬ y8 = G2 from by obtain ⟨cur, e⟩ := HGT.out; exact row_ne GZ2.out e (by decide))
                have HXO := hid (show Nv.ok ⟨bo2, so2, xa2⟩ from by have := HF1.out.get (se, ii); rw [P8.out] at this; exact this)
                have tlt : (t2 : Int) < (k2 : Int) := by have := P12.out; have := P22.out; omega
                have kd2 : k2 ≤ d2 := (own_cap P3.out).1
                obtain ⟨nb2, hnb⟩ : ∃ z, (so2 + qq) % 18446744073709551616 = z := ⟨_, rfl⟩
                obtain ⟨nv2, hnv⟩ : ∃ z, maddV xa2 (-v) = z := ⟨_, rfl⟩
                obtain ⟨er, her⟩ : ∃ z, maddE xa2 (-v) = z := ⟨_, rfl⟩
                have wb : IntKind.u64.wrap (so2 + qq) = nb2 := by rw [IntKind.wrap_u64]; exact hnb
                have HNV := hid (show maddV xa2 (-v) = nv2 ∧ Amt nv2 from ⟨hnv, by rw [← hnv]; exact madd_amt _ _⟩)
                have HNB := hid (show (so2 + qq) % 18446744073709551616 = nb2 from hnb)
                have HER := hid her
                clear hnb hnv her hGb hGW HGT
                refine reg_cut (X := Unit) (fun a _ => ((((((((((((a.put (some 83) (.slice (some ⟨G2, 0, none⟩) k2 d2)).put (some 84) (.int .i64 t2)).put (some 85) (.slice (some ⟨G2, 0, none⟩) k2 d2)).put (some 86) (.int .i64 t2)).put (some 87) (.pointer (some ⟨G2, t2 * 6, none⟩))).put (some 88) (.pointer (some ⟨G2, t2 * 6 + 3, none⟩))).put (some 89) (.int .u64 so2)).put (some 90) (.pointer (some ⟨y, 5, none⟩))).put (some 91) (.int .u64 qq)).put (some 92) (.int .u64 nb2)).put (some 93) (.pointer (some ⟨G2, t2 * 6, none⟩))).put (some 94) (.pointer (some ⟨G2, t2 * 6 + 3, none⟩)))) (fun _ V9 => Hid (Kp (fun j => j = G2) X2 V9) ∧ Hid (V9.ownsRow b 43 6 (.slice (some ⟨G2, 0, none⟩) k2 d2) k2 (ecs (A2 ++ ⟨se, ii, bo2, nb2, xa2, xb2, xp2, xn2, xc2⟩ :: B2)))) ?_ ?_
                · obtain ⟨V142, hV⟩ : ∃ U, X2.drew = U := ⟨_, rfl⟩
                  have bv : Below X2.heap.size X2 V142 := by rw [← hV]; exact bdrew1 _
                  have rY := hid (row_on GY2.out bv)
                  have rO := hid (own_on P3.out bv)
                  have kK := hid (Kp.of (fun j => j = G2) bv)
                  refine wp_region_held_drew (S := (fun U => U.cell? ⟨y, 5, none⟩ = some (.int .u64 qq))) (by kernel_rfl) ?_ (fun hHeld => ?_)
                  · (try dsimp only); rw [hV]; exact row_cell rY.out 5
                  rw [hV] at hHeld ⊢
                  clear hV bv
                  refine' wpAnyH_take (i := 0) (oi := _) (v := _) rfl (by kernel_rfl) (by kernel_rfl) (by kernel_rfl) (fun _ _ _ h => h) (Or.inl ⟨by kernel_rfl, ?_⟩) (by assumption) ?_
                  rotate_left
                  · (intro w hSw; (try dsimp only at hSw); go_simp; try (with_reducible rfl))
                  try simp only [List.getElem_toArray, List.getElem_cons_succ, List.getElem_cons_zero, Act.put, List.setIfInBounds_toArray, List.set_cons_zero, List.set_cons_succ]
                  refine' wpAnyH_take (i := 1) (oi := _) (v := _) rfl (by kernel_rfl) (by kernel_rfl) (by kernel_rfl) (fun _ _ _ h => h) (Or.inl ⟨by kernel_rfl, ?_⟩) (by assumption) ?_
                  rotate_left
                  · (intro w hSw; (try dsimp only at hSw); go_simp; try (with_reducible rfl))
                  try simp only [List.getElem_toArray, List.getElem_cons_succ, List.getElem_cons_zero, Act.put, List.setIfInBounds_toArray, List.set_cons_zero, List.set_cons_succ]
                  refine' wpAnyH_take (i := 2) (oi := _) (v := _) rfl (by kernel_rfl) (by kernel_rfl) (by kernel_rfl) (fun _ _ _ h => h) (Or.inl ⟨by kernel_rfl, ?_⟩) (by assumption) ?_
                  rotate_left
                  · (intro w hSw; (try dsimp only at hSw); go_simp; try (with_reducible rfl))
                  try simp only [List.getElem_toArray, List.getElem_cons_succ, List.getElem_cons_zero, Act.put, List.setIfInBounds_toArray, List.set_cons_zero, List.set_cons_succ]
                  refine' wpAnyH_take (i := 3) (oi := _) (v := _) rfl (by kernel_rfl) (by kernel_rfl) (by kernel_rfl) (fun _ _ _ h => h) (Or.inl ⟨by kernel_rfl, ?_⟩) (by assumption) ?_
                  rotate_left
                  · (intro w hSw; (try dsimp only at hSw); go_simp; try (with_reducible rfl))
                  try simp only [List.getElem_toArray, List.getElem_cons_succ, List.getElem_cons_zero, Act.put, List.setIfInBounds_toArray, List.set_cons_zero, List.set_cons_succ]
                  refine' wpAnyH_take (i := 4) (oi := _) (v := _) rfl (by kernel_rfl) (by kernel_rfl) (by kernel_rfl) (fun _ _ _ h => h) (Or.inl ⟨by kernel_rfl, ?_⟩) (by assumption) ?_
                  rotate_left
                  · (intro w hSw; (try dsimp only at hSw); go_simp; try (with_reducible rfl))
                  try simp only [List.getElem_toArray, List.getElem_cons_succ, List.getElem_cons_zero, Act.put, List.setIfInBounds_toArray, List.set_cons_zero, List.set_cons_succ]
                  refine' wpAnyH_take (i := 5) (oi := _) (v := _) rfl (by kernel_rfl) (by kernel_rfl) (by kernel_rfl) (fun _ _ _ h => h) (Or.inl ⟨by kernel_rfl, ?_⟩) (by assumption) ?_
                  rotate_left
                  · (intro w hSw; (try dsimp only at hSw); go_simp; try (with_reducible rfl))
                  try simp only [List.getElem_toArray, List.getElem_cons_succ, List.getElem_cons_zero, Act.put, List.setIfInBounds_toArray, List.set_cons_zero, List.set_cons_succ]
                  refine' wpAnyH_take (i := 7) (oi := _) (v := _) rfl (by kernel_rfl) (by kernel_rfl) (by kernel_rfl) (fun _ _ _ h => h) (Or.inl ⟨by kernel_rfl, ?_⟩) (by assumption) ?_
                  rotate_left
                  · (intro w hSw; (try dsimp only at hSw); go_simp; try (with_reducible rfl))
                  try simp only [List.getElem_toArray, List.getElem_cons_succ, List.getElem_cons_zero, Act.put, List.setIfInBounds_toArray, List.set_cons_zero, List.set_cons_succ]
                  refine' wpAnyH_take (i := 8) (oi := _) (v := _) rfl (by kernel_rfl) (by kernel_rfl) (by kernel_rfl) (fun _ _ _ h => h) (Or.inl ⟨by kernel_rfl, ?_⟩) (by assumption) ?_
                  rotate_left
                  · (intro w hSw; (try dsimp only at hSw); go_simp; try (with_reducible rfl))
                  try simp only [List.getElem_toArray, List.getElem_cons_succ, List.getElem_cons_zero, Act.put, List.setIfInBounds_toArray, List.set_cons_zero, List.set_cons_succ]
                  refine wpAnyH_ready (rs := [6]) (by kernel_rfl) (by simp) ?_
                  refine (AllReadyH.cons (o := _) rfl (fun K hK => ?_) AllReadyH.nil)
                  have z3 : V142.cell? ⟨G2, t2 * 6 + 3, none⟩ = some (.int .u64 so2) := by have h1 := (Dm.own_cells rO.out).2 (A2.length * 6 + 3) (.int .u64 so2) (ecs_at A2 B2 ⟨se, ii, bo2, so2, xa2, xb2, xp2, xn2, xc2⟩ 3 (by decide)); rw [Addr.add_lit, Nat.zero_add, P12.out] at h1; exact h1
                  go_simp
                  refine hK.out _ _ ?_ (fun hHeld => ?_)
                  · (try dsimp only); exact row_cell rY.out 5
                  clear hK K z3
                  try simp only [List.getElem_toArray, List.getElem_cons_succ, List.getElem_cons_zero, Act.put, List.setIfInBounds_toArray, List.set_cons_zero, List.set_cons_succ]
                  refine' wpAnyH_take (i := 9) (oi := _) (v := _) rfl (by kernel_rfl) (by kernel_rfl) (by kernel_rfl) (fun _ _ _ h => h) (Or.inl ⟨by kernel_rfl, ?_⟩) (by assumption) ?_
                  rotate_left
                  · (intro w hSw; (try dsimp only at hSw); go_simp; try (with_reducible rfl))
                  try simp only [List.getElem_toArray, List.getElem_cons_succ, List.getElem_cons_zero, Act.put, List.setIfInBounds_toArray, List.set_cons_zero, List.set_cons_succ]
                  refine' wpAnyH_take (i := 10) (oi := _) (v := _) rfl (by kernel_rfl) (by kernel_rfl) (by kernel_rfl) (fun _ _ _ h => h) (Or.inl ⟨by kernel_rfl, ?_⟩) (by assumption) ?_
                  rotate_left
                  · (intro w hSw; (try dsimp only at hSw); go_simp; try (with_reducible rfl))
                  try simp only [List.getElem_toArray, List.getElem_cons_succ, List.getElem_cons_zero, Act.put, List.setIfInBounds_toArray, List.set_cons_zero, List.set_cons_succ]
                  refine' wpAnyH_take (i := 11) (oi := _) (v := _) rfl (by kernel_rfl) (by kernel_rfl) (by kernel_rfl) (fun _ _ _ h => h) (Or.inl ⟨by kernel_rfl, ?_⟩) (by assumption) ?_
                  rotate_left
                  · (intro w hSw; (try dsimp only at hSw); go_simp; try (with_reducible rfl))
                  try simp only [List.getElem_toArray, List.getElem_cons_succ, List.getElem_cons_zero, Act.put, List.setIfInBounds_toArray, List.set_cons_zero, List.set_cons_succ]
                  refine wpAnyH_ready (rs := [12]) (by kernel_rfl) (by simp) ?_
                  refine (AllReadyH.cons (o := _) rfl (fun K hK => ?_) AllReadyH.nil)
                  have z3 : V142.cell? ⟨G2, t2 * 6 + 3, none⟩ = some (.int .u64 so2) := by have h1 := (Dm.own_cells rO.out).2 (A2.length * 6 + 3) (.int .u64 so2) (ecs_at A2 B2 ⟨se, ii, bo2, so2, xa2, xb2, xp2, xn2, xc2⟩ 3 (by decide)); rw [Addr.add_lit, Nat.zero_add, P12.out] at h1; exact h1
                  have f0 := own_frz rO.out (t2 * 6 + 3)
                  go_simp
                  obtain ⟨Y1, hY⟩ : ∃ Z9, V142.setCell ⟨G2, t2 * 6 + 3, none⟩ (.int .u64 nb2) = Z9 := ⟨_, rfl⟩
                  have kx := hid (show Kp (fun j => j = G2) V142 Y1 from by rw [← hY]; exact Kp.set _ _ _ _)
                  have eL : (ecs (A2 ++ (⟨se, ii, bo2, so2, xa2, xb2, xp2, xn2, xc2⟩ : Ne) :: B2)).set (t2 * 6 + 3) (.int .u64 nb2) = ecs (A2 ++ (⟨se, ii, bo2, nb2, xa2, xb2, xp2, xn2, xc2⟩ : Ne) :: B2) := by rw [← P12.out, ecs_set _ _ _ 3 (by decide), ecs_app, ecs_cons]; rfl
                  have rO1 := hid (show Y1.ownsRow b 43 6 (.slice (some ⟨G2, 0, none⟩) k2 d2) k2 (ecs (A2 ++ ⟨se, ii, bo2, nb2, xa2, xb2, xp2, xn2, xc2⟩ :: B2)) from by rw [← hY]; have h1 := own_setc rO.out (t2 * 6 + 3) (.int .u64 nb2); rw [eL] at h1; exact h1)
                  have rY1 := hid (kx.out.row rY.out NY2.out)
                  have kK1 := hid (kK.out.trans kx.out (fun g _ e => e))
                  rw [hY]
                  refine hK.out _ _ ?_ (fun hHeld => ?_)
                  · (try dsimp only); exact row_cell rY1.out 5
                  clear hK K z3 f0 hY kx eL
                  try simp only [List.getElem_toArray, List.getElem_cons_succ, List.getElem_cons_zero, Act.put, List.setIfInBounds_toArray, List.set_cons_zero, List.set_cons_succ]
                  refine wpAnyH_done (by kernel_rfl) ?_ _
                  exact ⟨(), by kernel_rfl, kK1, rO1⟩
                · rintro _ Y2 ⟨KY, HOY⟩
                  try simp only [List.getElem_toArray, List.getElem_cons_succ, List.getElem_cons_zero, Act.put, List.setIfInBounds_toArray, List.set_cons_zero, List.set_cons_succ]
                  have HEY := hid (show emt Y2 (A2 ++ ⟨se, ii, bo2, nb2, xa2, xb2, xp2, xn2, xc2⟩ :: B2) from by
                    have hd : Dg X2 Y2 := Dg.kp KY.out (e := 43) (by decide) (fun g _ e => by subst e; exact own_ty P3.out rfl)
                    intro x hx
                    rcases List.mem_append.1 hx with hx | hx
                    · exact am_dg (P4.out x (List.mem_append_left _ hx)) hd
                    · rcases List.mem_cons.1 hx with rfl | hx
                      · exact am_dg (P4.out ⟨se, ii, bo2, so2, xa2, xb2, xp2, xn2, xc2⟩ (by simp)) hd
                      · exact am_dg (P4.out x (List.mem_append_right _ (List.mem_cons_of_mem _ hx))) hd)
                  have GYy := hid (KY.out.row GY2.out NY2.out)
                  have GZy := hid (KY.out.row GZ2.out NZ2.out)
                  have HVy := hid (am_dg HV2.out (Dg.kp KY.out (e := 43) (by decide) (fun g _ e => by subst e; exact own_ty P3.out rfl)))
                  have BY2 := hid (BX2.out.trans (KY.out.below (by rw [← HB.out]; exact BX2.out.size) (fun j hj e => by have := HGb2.out; omega)))
                  have CA := hid (show ∀ U, Below Y2.heap.size Y2 U → Calls Try.prog 23 #[.agg #[.bool xb2, .slice xp2 xn2 xc2], .agg #[.bool vb, .slice vp vn vc]] U fun e w' => Dm.Ans w' e nv2 er ∧ Below U.heap.size U w' from fun U hU => by rw [← HNV.out.1, ← HER.out]; exact Dm.rsub_any _ _ xa2 v U ((HEY.out ⟨se, ii, bo2, nb2, xa2, xb2, xp2, xn2, xc2⟩ (by simp)).on hU) (HVy.out.on hU) HXO.out.1 HAV.out)
                  clear P4 PB
                  go_upto_region 18 with fail
                  refine reg_cut (X := Bool × Option Addr × Nat × Nat) (fun a t => ((((((((((((((a.put (some 96) (.slice (some ⟨G2, 0, none⟩) k2 d2)).put (some 97) (.int .i64 t2)).put (some 98) (.slice (some ⟨G2, 0, none⟩) k2 d2)).put (some 99) (.int .i64 t2)).put (some 100) (.pointer (some ⟨G2, t2 * 6, none⟩))).put (some 101) (.pointer (some ⟨G2, t2 * 6 + 4, none⟩))).put (some 102) (.agg #[.bool xb2, .slice xp2 xn2 xc2])).put (some 103) (.agg #[.bool vb, .slice vp vn vc])).put (some 104) (.tuple #[.agg #[.bool t.1, .slice t.2.1 t.2.2.1 t.2.2.2], .int .i64 er])).put (some 95) (.tuple #[.agg #[.bool t.1, .slice t.2.1 t.2.2.1 t.2.2.2], .int .i64 er])).put (some 105) (.agg #[.bool t.1, .slice t.2.1 t.2.2.1 t.2.2.2])).put (some 106) (.int .i64 er)).put (some 107) (.pointer (some ⟨G2, t2 * 6, none⟩))).put (some 108) (.pointer (some ⟨G2, t2 * 6 + 4, none⟩)))) (fun t V9 => Hid (Kp (fun j => j = G2) Y2 V9) ∧ Hid (V9.ownsRow b 43 6 (.slice (some ⟨G2, 0, none⟩) k2 d2) k2 (ecs (A2 ++ ⟨se, ii, bo2, nb2, nv2, t.1, t.2.1, t.2.2.1, t.2.2.2⟩ :: B2))) ∧ Hid (Dm.Am V9 (.agg #[.bool t.1, .slice t.2.1 t.2.2.1 t.2.2.2]) nv2)) ?_ ?_
                  · obtain ⟨V152, hV⟩ : ∃ U, Y2.drew = U := ⟨_, rfl⟩
                    have bv : Below Y2.heap.size Y2 V152 := by rw [← hV]; exact bdrew1 _
                    have rZ := hid (row_on GZy.out bv)
                    have rO := hid (own_on HOY.out bv)
                    have kK := hid (Kp.of (fun j => j = G2) bv)
                    have BV := hid bv
                    refine wp_region_held_drew (S := (fun U => U.cell? ⟨y8, 0, none⟩ = some (.bool vb) ∧ U.cell? ⟨y8, 1, none⟩ = some (.slice vp vn vc))) (by kernel_rfl) ?_ (fun hHeld => ?_)
                    · (try dsimp only); rw [hV]; exact ⟨row_cell rZ.out 0, row_cell rZ.out 1⟩
                    rw [hV] at hHeld ⊢
                    clear hV bv
                    refine' wpAnyH_take (i := 0) (oi := _) (v := _) rfl (by kernel_rfl) (by kernel_rfl) (by kernel_rfl) (fun _ _ _ h => h) (Or.inl ⟨by kernel_rfl, ?_⟩) (by assumption) ?_
                    rotate_left
                    · (intro w hSw; (try dsimp only at hSw); go_simp; try (with_reducible rfl))
                    try simp only [List.getElem_toArray, List.getElem_cons_succ, List.getElem_cons_zero, Act.put, List.setIfInBounds_toArray, List.set_cons_zero, List.set_cons_succ]
                    refine' wpAnyH_take (i := 1) (oi := _) (v := _) rfl (by kernel_rfl) (by kernel_rfl) (by kernel_rfl) (fun _ _ _ h => h) (Or.inl ⟨by kernel_rfl, ?_⟩) (by assumption) ?_
                    rotate_left
                    · (intro w hSw; (try dsimp only at hSw); go_simp; try (with_reducible rfl))
                    try simp only [List.getElem_toArray, List.getElem_cons_succ, List.getElem_cons_zero, Act.put, List.setIfInBounds_toArray, List.set_cons_zero, List.set_cons_succ]
                    refine' wpAnyH_take (i := 2) (oi := _) (v := _) rfl (by kernel_rfl) (by kernel_rfl) (by kernel_rfl) (fun _ _ _ h => h) (Or.inl ⟨by kernel_rfl, ?_⟩) (by assumption) ?_
                    rotate_left
                    · (intro w hSw; (try dsimp only at hSw); go_simp; try (with_reducible rfl))
                    try simp only [List.getElem_toArray, List.getElem_cons_succ, List.getElem_cons_zero, Act.put, List.setIfInBounds_toArray, List.set_cons_zero, List.set_cons_succ]
                    refine' wpAnyH_take (i := 3) (oi := _) (v := _) rfl (by kernel_rfl) (by kernel_rfl) (by kernel_rfl) (fun _ _ _ h => h) (Or.inl ⟨by kernel_rfl, ?_⟩) (by assumption) ?_
                    rotate_left
                    · (intro w hSw; (try dsimp only at hSw); go_simp; try (with_reducible rfl))
                    try simp only [List.getElem_toArray, List.getElem_cons_succ, List.getElem_cons_zero, Act.put, List.setIfInBounds_toArray, List.set_cons_zero, List.set_cons_succ]
                    refine' wpAnyH_take (i := 4) (oi := _) (v := _) rfl (by kernel_rfl) (by kernel_rfl) (by kernel_rfl) (fun _ _ _ h => h) (Or.inl ⟨by kernel_rfl, ?_⟩) (by assumption) ?_
                    rotate_left
                    · (intro w hSw; (try dsimp only at hSw); go_simp; try (with_reducible rfl))
                    try simp only [List.getElem_toArray, List.getElem_cons_succ, List.getElem_cons_zero, Act.put, List.setIfInBounds_toArray, List.set_cons_zero, List.set_cons_succ]
                    refine' wpAnyH_take (i := 5) (oi := _) (v := _) rfl (by kernel_rfl) (by kernel_rfl) (by kernel_rfl) (fun _ _ _ h => h) (Or.inl ⟨by kernel_rfl, ?_⟩) (by assumption) ?_
                    rotate_left
                    · (intro w hSw; (try dsimp only at hSw); go_simp; try (with_reducible rfl))
                    try simp only [List.getElem_toArray, List.getElem_cons_succ, List.getElem_cons_zero, Act.put, List.setIfInBounds_toArray, List.set_cons_zero, List.set_cons_succ]
                    refine' wpAnyH_take (i := 7) (oi := _) (v := _) rfl (by kernel_rfl) (by kernel_rfl) (by kernel_rfl) (fun _ _ _ h => h) (Or.inl ⟨by kernel_rfl, ?_⟩) (by assumption) ?_
                    rotate_left
                    · (intro w hSw; (try dsimp only at hSw); go_simp; try (with_reducible rfl))
                    try simp only [List.getElem_toArray, List.getElem_cons_succ, List.getElem_cons_zero, Act.put, List.setIfInBounds_toArray, List.set_cons_zero, List.set_cons_succ]
                    refine wpAnyH_ready (rs := [6]) (by kernel_rfl) (by simp) ?_
                    refine (AllReadyH.cons (o := _) rfl (fun K hK => ?_) AllReadyH.nil)
                    have z4 : V152.cell? ⟨G2, t2 * 6 + 4, none⟩ = some (.bool xb2) := by have h1 := (Dm.own_cells rO.out).2 (A2.length * 6 + 4) (.bool xb2) (ecs_at A2 B2 ⟨se, ii, bo2, nb2, xa2, xb2, xp2, xn2, xc2⟩ 4 (by decide)); rw [Addr.add_lit, Nat.zero_add, P12.out] at h1; exact h1
                    have z5 : V152.cell? ⟨G2, t2 * 6 + 5, none⟩ = some (.slice xp2 xn2 xc2) := by have h1 := (Dm.own_cells rO.out).2 (A2.length * 6 + 5) (.slice xp2 xn2 xc2) (ecs_at A2 B2 ⟨se, ii, bo2, nb2, xa2, xb2, xp2, xn2, xc2⟩ 5 (by decide)); rw [Addr.add_lit, Nat.zero_add, P12.out] at h1; exact h1
                    go_simp
                    refine hK.out _ _ ?_ (fun hHeld => ?_)
                    · (try dsimp only); exact ⟨row_cell rZ.out 0, row_cell rZ.out 1⟩
                    clear hK K z4 z5
                    try simp only [List.getElem_toArray, List.getElem_cons_succ, List.getElem_cons_zero, Act.put, List.setIfInBounds_toArray, List.set_cons_zero, List.set_cons_succ]
                    refine wpAnyH_ready (rs := [8]) (by kernel_rfl) (by simp) ?_
                    refine (AllReadyH.cons (o := _) rfl (fun K hK => ?_) AllReadyH.nil)
                    go_simp
                    go_at_call 23
                    with_reducible refine (CA.out _ BV.out).mono ?_
                    rintro e Z ⟨⟨r9, a9, n9, c9, rfl, h9⟩, Db⟩
                    have HA9 := hid h9
                    have rZ1 := hid (row_on rZ.out Db)
                    have rO1 := hid (own_on rO.out Db)
                    have kK1 := hid (kK.out.trans (Kp.of (fun j => j = G2) Db) (fun g _ e => e))
                    clear h9 Db
                    (try go_wp2_with fail)
                    refine hK.out _ _ ?_ (fun hHeld => ?_)
                    · (try dsimp only); exact ⟨row_cell rZ1.out 0, row_cell rZ1.out 1⟩
                    clear hK K
                    try simp only [List.getElem_toArray, List.getElem_cons_succ, List.getElem_cons_zero, Act.put, List.setIfInBounds_toArray, List.set_cons_zero, List.set_cons_succ]
                    refine' wpAnyH_take (i := 9) (oi := _) (v := _) rfl (by kernel_rfl) (by kernel_rfl) (by kernel_rfl) (fun _ _ _ h => h) (Or.inl ⟨by kernel_rfl, ?_⟩) (by assumption) ?_
                    rotate_left
                    · (intro w hSw; (try dsimp only at hSw); go_simp; try (with_reducible rfl))
                    try simp only [List.getElem_toArray, List.getElem_cons_succ, List.getElem_cons_zero, Act.put, List.setIfInBounds_toArray, List.set_cons_zero, List.set_cons_succ]
                    refine' wpAnyH_take (i := 10) (oi := _) (v := _) rfl (by kernel_rfl) (by kernel_rfl) (by kernel_rfl) (fun _ _ _ h => h) (Or.inl ⟨by kernel_rfl, ?_⟩) (by assumption) ?_
                    rotate_left
                    · (intro w hSw; (try dsimp only at hSw); go_simp; try (with_reducible rfl))
                    try simp only [List.getElem_toArray, List.getElem_cons_succ, List.getElem_cons_zero, Act.put, List.setIfInBounds_toArray, List.set_cons_zero, List.set_cons_succ]
                    refine' wpAnyH_take (i := 11) (oi := _) (v := _) rfl (by kernel_rfl) (by kernel_rfl) (by kernel_rfl) (fun _ _ _ h => h) (Or.inl ⟨by kernel_rfl, ?_⟩) (by assumption) ?_
                    rotate_left
                    · (intro w hSw; (try dsimp only at hSw); go_simp; try (with_reducible rfl))
                    try simp only [List.getElem_toArray, List.getElem_cons_succ, List.getElem_cons_zero, Act.put, List.setIfInBounds_toArray, List.set_cons_zero, List.set_cons_succ]
                    refine' wpAnyH_take (i := 12) (oi := _) (v := _) rfl (by kernel_rfl) (by kernel_rfl) (by kernel_rfl) (fun _ _ _ h => h) (Or.inl ⟨by kernel_rfl, ?_⟩) (by assumption) ?_
                    rotate_left
                    · (intro w hSw; (try dsimp only at hSw); go_simp; try (with_reducible rfl))
                    try simp only [List.getElem_toArray, List.getElem_cons_succ, List.getElem_cons_zero, Act.put, List.setIfInBounds_toArray, List.set_cons_zero, List.set_cons_succ]
                    refine' wpAnyH_take (i := 13) (oi := _) (v := _) rfl (by kernel_rfl) (by kernel_rfl) (by kernel_rfl) (fun _ _ _ h => h) (Or.inl ⟨by kernel_rfl, ?_⟩) (by assumption) ?_
                    rotate_left
                    · (intro w hSw; (try dsimp only at hSw); go_simp; try (with_reducible rfl))
                    try simp only [List.getElem_toArray, List.getElem_cons_succ, List.getElem_cons_zero, Act.put, List.setIfInBounds_toArray, List.set_cons_zero, List.set_cons_succ]
                    refine wpAnyH_ready (rs := [14]) (by kernel_rfl) (by simp) ?_
                    refine (AllReadyH.cons (o := _) rfl (fun K hK => ?_) AllReadyH.nil)
                    have z4 : Z.cell? ⟨G2, t2 * 6 + 4, none⟩ = some (.bool xb2) := by have h1 := (Dm.own_cells rO1.out).2 (A2.length * 6 + 4) (.bool xb2) (ecs_at A2 B2 ⟨se, ii, bo2, nb2, xa2, xb2, xp2, xn2, xc2⟩ 4 (by decide)); rw [Addr.add_lit, Nat.zero_add, P12.out] at h1; exact h1
                    have z5 : Z.cell? ⟨G2, t2 * 6 + 5, none⟩ = some (.slice xp2 xn2 xc2) := by have h1 := (Dm.own_cells rO1.out).2 (A2.length * 6 + 5) (.slice xp2 xn2 xc2) (ecs_at A2 B2 ⟨se, ii, bo2, nb2, xa2, xb2, xp2, xn2, xc2⟩ 5 (by decide)); rw [Addr.add_lit, Nat.zero_add, P12.out] at h1; exact h1
                    have f4 := own_frz rO1.out (t2 * 6 + 4)
                    have f5 := own_frz rO1.out (t2 * 6 + 5)
                    go_simp
                    obtain ⟨Y1, hY⟩ : ∃ Z9, (Z.setCell ⟨G2, t2 * 6 + 4, none⟩ (.bool r9)).setCell ⟨G2, t2 * 6 + 5, none⟩ (.slice a9 n9 c9) = Z9 := ⟨_, rfl⟩
                    have kx := hid (show Kp (fun j => j = G2) Z Y1 from by rw [← hY]; exact (Kp.set Z G2 _ _).trans (Kp.set _ G2 _ _) (fun g _ e => e))
                    have eL : ((ecs (A2 ++ (⟨se, ii, bo2, nb2, xa2, xb2, xp2, xn2, xc2⟩ : Ne) :: B2)).set (t2 * 6 + 4) (.bool r9)).set (t2 * 6 + 5) (.slice a9 n9 c9) = ecs (A2 ++ (⟨se, ii, bo2, nb2, nv2, r9, a9, n9, c9⟩ : Ne) :: B2) := by rw [← P12.out]; exact ecs_set2 _ _ _ _ _ _ _ _ _ _ _ _ _ _ _ _
                    have rO2 := hid (show Y1.ownsRow b 43 6 (.slice (some ⟨G2, 0, none⟩) k2 d2) k2 (ecs (A2 ++ ⟨se, ii, bo2, nb2, nv2, r9, a9, n9, c9⟩ :: B2)) from by rw [← hY]; have h1 := own_setc (own_setc rO1.out (t2 * 6 + 4) (.bool r9)) (t2 * 6 + 5) (.slice a9 n9 c9); rw [eL] at h1; exact h1)
                    have rZ2 := hid (kx.out.row rZ1.out NZ2.out)
                    have kK2 := hid (kK1.out.trans kx.out (fun g _ e => e))
                    have HB9 := hid (am_dg HA9.out (Dg.kp kx.out (e := 43) (by decide) (fun g _ e => by subst e; exact own_ty rO1.out rfl)))
                    rw [hY]
                    refine hK.out _ _ ?_ (fun hHeld => ?_)
                    · (try dsimp only); exact ⟨row_cell rZ2.out 0, row_cell rZ2.out 1⟩
                    clear hK K z4 z5 f4 f5 hY kx eL
                    try simp only [List.getElem_toArray, List.getElem_cons_succ, List.getElem_cons_zero, Act.put, List.setIfInBounds_toArray, List.set_cons_zero, List.set_cons_succ]
                    refine wpAnyH_done (by kernel_rfl) ?_ _
                    exact ⟨(r9, a9, n9, c9), by kernel_rfl, kK2, rO2, HB9⟩
                  · rintro ⟨r9, a9, n9, c9⟩ W2 ⟨KZ, HO2, HAZ⟩
                    dsimp only at KZ HO2 HAZ ⊢
                    try simp only [List.getElem_toArray, List.getElem_cons_succ, List.getElem_cons_zero, Act.put, List.setIfInBounds_toArray, List.set_cons_zero, List.set_cons_succ]
                    have HDZ := hid (show Dg Y2 W2 from Dg.kp KZ.out (e := 43) (by decide) (fun g _ e => by subst e; exact own_ty HOY.out rfl))
                    have HE2 := hid (show emt W2 (A2 ++ ⟨se, ii, bo2, nb2, nv2, r9, a9, n9, c9⟩ :: B2) from by
                      intro x hx
                      rcases List.mem_append.1 hx with hx | hx
                      · exact am_dg (HEY.out x (List.mem_append_left _ hx)) HDZ.out
                      · rcases List.mem_cons.1 hx with rfl | hx
                        · exact HAZ.out
                        · exact am_dg (HEY.out x (List.mem_append_right _ (List.mem_cons_of_mem _ hx))) HDZ.out)
                    have GY2 := hid (KZ.out.row GYy.out NY2.out)
                    have GZ2 := hid (KZ.out.row GZy.out NZ2.out)
                    have HV2 := hid (am_dg HVy.out HDZ.out)
                    have BW2 := hid (BY2.out.trans (KZ.out.below (by rw [← HB.out]; exact BY2.out.size) (fun j hj e => by have := HGb2.out; omega)))
                    have SB2 := hid (show b ≤ W2.heap.size from by rw [← HB.out]; exact BW2.out.size)
                    have HK2 := hid (show (A2 ++ (⟨se, ii, bo2, nb2, nv2, r9, a9, n9, c9⟩ : Ne) :: B2).length = k2 from by rw [← P22.out]; simp; omega)
                    have LK2 := hid (show k2 ≤ 2000000000 from by have := P5.out; have := HLT.out; have := HM.out; have := LB1.out; omega)
                    have LB2 := hid (show k2 ≤ 2 * i + 2 from by have := P5.out; have := LB1.out; omega)
                    have FE2 := hid (show selD f1 se ii qq v = upd f1 (se, ii) ⟨bo2, nb2, nv2⟩ from by
                      unfold selD
                      rw [P8.out]
                      dsimp only
                      rw [HNB.out, HNV.out.1])
                    have HR2 := hid (show RelN (selD f1 se ii qq v) (nev (A2 ++ ⟨se, ii, bo2, nb2, nv2, r9, a9, n9, c9⟩ :: B2)) from by
                      rw [FE2.out]
                      have h1 := P9.out ⟨bo2, nb2, nv2⟩ ⟨HNV.out.2, HXO.out.2.1, ⟨by have := HNB.out; dsimp only; omega, by have := HNB.out; dsimp only; omega⟩⟩
                      rw [nev_app]
                      exact h1)
                    have HF2 := hid (HF1.out.sel se ii qq v)
                    obtain ⟨f2, hf2⟩ : ∃ z, selD f1 se ii qq v = z := ⟨_, rfl⟩
                    rw [hf2] at HR2 HF2
                    have HFE2 := hid hf2
                    clear hf2 FE2 P3 P5 P8 P9 HXO HNV HNB HER HEY HAZ HDZ CA KY KZ HOY GYy GZy HVy tlt wb
                    go_wp2
                    go_roundw
                    case rel =>
                      exact ⟨i + 1, k2, d2, some ⟨G2, 0, none⟩, _, f2, HLT.out, by go_num, rfl, HK2, hid (by have := LB2.out; omega), HR2, HF2, HNE2, hid (by rw [← HNS2.out, HFE1.out, HFE2.out]), HO2, HE2, BW2⟩
                    case measure => have := HLT.out; simp [intOf]; omega
          · have e3 : (er != 0) = true := by simpa using hez
            go_wp2
            go_ret2
            refine ⟨.inl ?_, BWX2.out⟩
            have h1 := HNE.out
            rw [HDR.out, if_neg hez] at h1
            rw [← h1]
            exact ⟨hez, rfl⟩
    · obtain rfl : i = n := by omega
      have e : l.drop i = [] := List.drop_eq_nil_of_le (by rw [HN.out]; exact Nat.le_refl _)
      have HNR := hid (show nerr l = 0 ∧ f0 = nst (fun _ => none) l from by
        have h1 := HNE.out
        have h2 := HNS.out
        rw [e] at h1 h2
        exact ⟨h1.symm, h2⟩)
      have jn : ¬ (i : Int) < (i : Int) := by omega
      clear hlt hin e
      go_wp2
      go_ret2
      exact ⟨.inr ⟨HNR.out.1, R, q, d, k, HK.out, rfl, by rw [← HNR.out.2]; exact HR.out, HO.out, HA.out, by rw [HN.out]; exact HKI.out⟩, BW.out⟩
end Go.Proofs.Ytegdhffejmbakaa.Ac
