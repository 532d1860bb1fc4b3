/-
  CnH
-/
import Derived.Test.YtlhbgaiiehljpaaGreatGAa
import Derived.Test.YtlhbgaiiehljpaaGreatCnG
import Derived.Test.YtlhbgaiiehljpaaGreatGAj
import Derived.Test.YtlhbgaiiehljpaaGreatLvR
namespace Go.Proofs.YtlhbgaiiehljpaaGreat.Ac
open List renaming getElem?_toArray → lqA, getElem?_cons_succ → lqB, getElem?_cons_zero → lqC
open List renaming getElem_toArray → lgA, getElem_cons_succ → lgB, getElem_cons_zero → lgC, setIfInBounds_toArray → lsA, set_cons_zero → lsB, set_cons_succ → lsC
open Go.RowKit Go.Deep Go.Maps MonM Go.Proofs.YtlhbgaiiehljpaaGreat
set_option linter.unusedVariables false
set_option linter.unusedSimpArgs false
set_option maxHeartbeats 8000000
set_option maxRecDepth 100000
attribute [local go_sem ↓] Go.wp_at_zero Go.wp_at_succ
def nce (x : Nt) : List Value := [.int .u32 x.m, .int .u32 x.i, .int .u64 x.b, .int .u64 x.s, .int .u64 (hiW x.a), .int .u64 (loW x.a)]
def ncs (l : List Nt) : List Value := l.flatMap nce
theorem ncs_snoc (l : List Nt) (x : Nt) : ncs (l ++ [x]) = ncs l ++ nce x := by simp [ncs]
theorem infoN40 : (Tryz.prog.info? 38).map (fun i => (i.zero, i.size, i.bytes)) = some (some (.agg #[.int .u32 0, .int .u32 0, .int .u64 0, .int .u64 0, .int .u64 0, .int .u64 0]), 6, 40) := by kernel_rfl
/-- deals in a slice. -/
def Lz (w : World) (p : Option Addr) (l : List Dl) : Prop := ∀ k (h : k < l.length), ∃ b off, p = some ⟨b, off, none⟩ ∧ b < w.heap.size ∧ ∀ j, j < 6 → w.cell? ⟨b, off + k * 6 + j, none⟩ = (drow l[k])[j]?
def NeP (base : Nat) (w' : World) (e : Ending) (l : List Dl) : Prop :=
 (nerr l ≠ 0 ∧ e = .returned (.tuple #[.slice none 0 0, .int .i64 (nerr l)])) ∨
 (nerr l = 0 ∧ ∃ (r : List Nt) (q : Option Addr) (d n : Nat), r.length = n ∧ e = .returned (.tuple #[.slice q n d, .int .i64 0]) ∧ RelN (nst (fun _ => none) l) r ∧ w'.ownsRow base 38 6 (.slice q n d) n (ncs r) ∧ n ≤ 2 * l.length)
theorem infoL6 : (Tryz.prog.info? 59).map (·.size) = some 6 := by kernel_rfl
theorem netted_any {w : World} {p : Option Addr} {c : Nat} {l : List Dl} (hz : Lz w p l) (hok : ∀ x ∈ l, x.ok) (hm : l.length ≤ 1000000000) :
  Calls Tryz.prog 6 #[.slice p l.length c] w fun e w' => NeP w.heap.size w' e l ∧ Below w.heap.size w w' := by
 obtain ⟨n, hn⟩ : ∃ n, l.length = n := ⟨_, rfl⟩
 obtain ⟨W0, hW0⟩ : ∃ W, w.alloc (.map #[] 0) = W := ⟨_, rfl⟩
 have BW0 := hid (show Below w.heap.size w W0 from by rw [← hW0]; exact ball _ _)
 have MP0 := hid (show Mp kvN W0 w.heap.size 0 (fun _ => none) from by rw [← hW0]; exact Mp.made kvN w)
 obtain ⟨b, hb⟩ : ∃ b, w.heap.size = b := ⟨_, rfl⟩
 have HB := hid hb
 have HZ := hid hz
 have HOK := hid hok
 have HN := hid hn
 have HM := hid (show n ≤ 1000000000 from by rw [← hn]; exact hm)
 rw [hb] at MP0
 rw [hn]
 have rm : (Instr.makeMap 74 none).run Tryz.prog w = .ok (.map (some b)) W0 := by rw [← hb, ← hW0]; rfl
 clear hz hok hm hn hW0 hb
 go_enter Tryz.func6, Tryz.ntmps6
 go_upto_region 2 with fail
 clear rm
 go_upto_region 3 with fail
 go_loopw [15] (fun iv wr => ∃ i, i ≤ n ∧ iv = .int .i64 (i : Nat) ∧ Hid (Below b w wr) ∧ Hid (∃ f, Mp kvN wr b (2 * i) f ∧ okF f ∧ nerr (l.drop i) = nerr l ∧ nst f (l.drop i) = nst (fun _ => none) l)) (fun iv _ => n - (intOf iv).toNat)
 case atStart => exact ⟨0, Nat.zero_le _, rfl, by rw [← HB.out]; exact BW0, ⟨_, MP0.out, (fun x v e => by cases e), by rw [List.drop_zero], by rw [List.drop_zero]⟩⟩
 case round =>
  obtain ⟨i, hin, rfl, BW, HF⟩ := hrel
  clear MP0 BW0
  obtain ⟨f, hmp, hokf, hne, hns⟩ := HF.out
  have HMP := hid hmp
  have HOF := hid hokf
  have HNE := hid hne
  have HNS := hid hns
  clear hmp hokf hne hns HF
  by_cases hlt : i < n
  ·have hi' : i < l.length := by rw [HN.out]; exact hlt
   obtain ⟨z, off, rfl, hbl, hc⟩ := HZ.out i hi'
   have HOD := hid (HOK.out _ (List.getElem_mem hi'))
   have hdr : l.drop i = l[i] :: l.drop (i + 1) := List.drop_eq_getElem_cons hi'
   have HNE1 := hid (show nerr (l[i] :: l.drop (i + 1)) = nerr l from by rw [← hdr]; exact HNE.out)
   have HNS1 := hid (show nst f (l[i] :: l.drop (i + 1)) = nst (fun _ => none) l from by rw [← hdr]; exact HNS.out)
   clear hdr
   clear HNE HNS
   generalize l[i] = d at hc HOD HNE1 HNS1
   have HNE := hid (show (if derr d = 0 then nerr (l.drop (i + 1)) else derr d) = nerr l from HNE1.out)
   have HNS := hid (show nst (dst f d) (l.drop (i + 1)) = nst (fun _ => none) l from HNS1.out)
   clear HNE1 HNS1
   have CT0 := hid (fun U => badTerms_any d U)
   have CC0 := hid (fun (ht : terr d = 0) U (hU : Mp kvN U b (2 * i) f) => count_any d b (2 * i) f U hU (by have := HM.out; unfold maxLen; omega) HOD.out ht HOF.out)
   have HDF := hid (HOF.out.dst d)
   obtain ⟨f2, hf2⟩ : ∃ x, dst f d = x := ⟨_, rfl⟩
   obtain ⟨er, her⟩ : ∃ x, terr d = x := ⟨_, rfl⟩
   have HDE0 := hid (show derr d = if d.buy = 0 ∨ d.sel = 0 then 200 else er from by rw [← her]; rfl)
   obtain ⟨dr, hdr⟩ : ∃ x, derr d = x := ⟨_, rfl⟩
   rw [hdr] at HDE0 HNE
   rw [hf2] at HNS CC0 HDF
   rw [her] at CT0 CC0
   obtain ⟨ii, bu, se, tk, pr, qq⟩ := d
   have HDE := hid (show dr = if bu = 0 ∨ se = 0 then 200 else er from HDE0.out)
   clear HDE0
   have CT := hid (show ∀ U, Calls Tryz.prog 21 #[.agg #[.int .u32 ii, .int .u32 bu, .int .u32 se, .int .i64 tk, .int .i64 pr, .int .u64 qq]] U fun e w' => e = .returned (.int .i64 er) ∧ Below U.heap.size U w' from CT0.out)
   have CC := hid (show er = 0 → ∀ U, Mp kvN U b (2 * i) f → Calls Tryz.prog 22 #[.map (some b), .agg #[.int .u32 ii, .int .u32 bu, .int .u32 se, .int .i64 tk, .int .i64 pr, .int .u64 qq]] U fun e w' => e = .returned (.tuple #[]) ∧ Mp kvN w' b (2 * i + 2) f2 ∧ Kp (fun j => j = b) U w' from CC0.out)
   clear CT0 CC0
   have KC := fun j (hj : j < 6) => (BW.out.cell (p := ⟨z, off + i * 6 + j, none⟩) (by rw [← HB.out]; exact hbl)).trans (hc j hj)
   have c0 : wr.cell? ⟨z, off + i * 6, none⟩ = some (.int .u32 ii) := KC 0 (by decide)
   have c1 : wr.cell? ⟨z, off + i * 6 + 1, none⟩ = some (.int .u32 bu) := KC 1 (by decide)
   have c2 : wr.cell? ⟨z, off + i * 6 + 2, none⟩ = some (.int .u32 se) := KC 2 (by decide)
   have c3 : wr.cell? ⟨z, off + i * 6 + 3, none⟩ = some (.int .i64 tk) := KC 3 (by decide)
   have c4 : wr.cell? ⟨z, off + i * 6 + 4, none⟩ = some (.int .i64 pr) := KC 4 (by decide)
   have c5 : wr.cell? ⟨z, off + i * 6 + 5, none⟩ = some (.int .u64 qq) := KC 5 (by decide)
   clear KC hc
   have i0 : (0 : Int) ≤ (i : Int) := by omega
   have i1 : (i : Int) < (n : Int) := by omega
   have wi : IntKind.i64.wrap ((i : Int) + 1) = ((i + 1 : Nat) : Int) := by have := HM.out; rw [IntKind.wrap_i64]; omega
   have HLT := hid hlt
   have HBL := hid (show b < wr.heap.size from HMP.out.lt)
   clear hlt hin hi' hbl hf2 her hdr HOD
   have HZR := hid (World.alloc_heap_new wr (.cells #[.int .u32 0, .int .u32 0, .int .u32 0, .int .i64 0, .int .i64 0, .int .u64 0] 59))
   go_upto_region 5 with (refine wpList_store_row (by rfl) 59 (.tmp 6) (.tmp 18) (by rfl) wr.heap.size #[.int .u32 ii, .int .u32 bu, .int .u32 se, .int .i64 tk, .int .i64 pr, .int .u64 qq] (by rfl) (by rfl) 59 _ HZR.out infoL6 (by rfl) (by simp [Value.oneCell']) ?_)
   obtain ⟨X, hX⟩ : ∃ X, (wr.alloc (.cells #[.int .u32 0, .int .u32 0, .int .u32 0, .int .i64 0, .int .i64 0, .int .u64 0] 59)).setRow wr.heap.size #[.int .u32 ii, .int .u32 bu, .int .u32 se, .int .i64 tk, .int .i64 pr, .int .u64 qq] = X := ⟨_, rfl⟩
   have GX := hid (show X.heap[wr.heap.size]? = some (.cells #[.int .u32 ii, .int .u32 bu, .int .u32 se, .int .i64 tk, .int .i64 pr, .int .u64 qq] 59 (0, 0)) from by rw [← hX]; exact setRow_heap _ _ _ _ 59 (0, 0) HZR.out)
   have BX := hid (show Below wr.heap.size wr X from by rw [← hX]; exact setRow_below (ball _ _) (Nat.le_refl _))
   rw [hX]
   obtain ⟨y, hy⟩ : ∃ y, wr.heap.size = y := ⟨_, rfl⟩
   have HY := hid hy
   rw [hy] at GX ⊢
   clear hX HZR hy c0 c1 c2 c3 c4 c5
   have BWX := hid (show Below b w X from BW.out.trans (BX.out.mono (by have := HBL.out; omega)))
   have g0 := row_cell GX.out 0
   have g1 := row_cell GX.out 1
   have g2 := row_cell GX.out 2
   have g3 := row_cell GX.out 3
   have g4 := row_cell GX.out 4
   have g5 := row_cell GX.out 5
   simp only [lqA, lqB, lqC] at g0 g1 g2 g3 g4 g5
   by_cases hbz : bu = 0
   ·subst hbz
    go_wp2
    go_ret2
    refine ⟨.inl ?_, by rw [HB.out]; exact BWX.out⟩
    have h1 := HNE.out
    have h2 : dr = 200 := by rw [HDE.out]; simp
    rw [h2, if_neg (by decide)] at h1
    rw [← h1]
    exact ⟨by decide, rfl⟩
   ·have e1 : (bu == 0) = false := by simpa using hbz
    by_cases hsz : se = 0
    ·subst hsz
     go_wp2
     go_ret2
     refine ⟨.inl ?_, by rw [HB.out]; exact BWX.out⟩
     have h1 := HNE.out
     have h2 : dr = 200 := by rw [HDE.out]; simp
     rw [h2, if_neg (by decide)] at h1
     rw [← h1]
     exact ⟨by decide, rfl⟩
    ·have e2 : (se == 0) = false := by simpa using hsz
     have HDR := hid (show dr = er from by rw [HDE.out, if_neg (by rintro (h | h); exact hbz h; exact hsz h)])
     go_upto_region 8 with (go_at_call 21; with_reducible refine (CT.out _).mono ?_; rintro e X2 ⟨rfl, h2⟩; have B2 := hid h2; clear h2)
     have GX2 := hid (row_on GX.out B2.out)
     clear g0 g1 g2 g3 g4 g5
     have g0 := row_cell GX2.out 0
     have g1 := row_cell GX2.out 1
     have g2 := row_cell GX2.out 2
     have g3 := row_cell GX2.out 3
     have g4 := row_cell GX2.out 4
     have g5 := row_cell GX2.out 5
     simp only [lqA, lqB, lqC] at g0 g1 g2 g3 g4 g5
     have BX2 := hid (btr BX.out B2.out)
     have BWX2 := hid (show Below b w X2 from BW.out.trans (BX2.out.mono (by have := HBL.out; omega)))
     have HM2 := hid (HMP.out.on BX2.out)
     by_cases hez : er = 0
     ·have CX := hid (CC.out hez)
      clear CC
      subst hez
      go_wp2_with (go_at_call 22; with_reducible refine (CX.out X2 HM2.out).mono ?_; rintro e X3 ⟨rfl, h3, h4⟩; have HM3 := hid h3; have K3 := hid h4; clear h3 h4)
      go_roundw
      case rel =>
       refine ⟨i + 1, HLT.out, by go_num, BWX2.out.trans (K3.out.below (by rw [← HB.out]; exact BWX2.out.size) (fun j hj e => by omega)), f2, HM3.out, HDF.out, ?_, HNS.out⟩
       have h1 := HNE.out
       rw [HDR.out, if_pos rfl] at h1
       exact h1
      case measure => have := HLT.out; simp [intOf]; omega
     ·have e3 : (er != 0) = true := by simpa using hez
      go_wp2
      go_ret2
      refine ⟨.inl ?_, by rw [HB.out]; exact BWX2.out⟩
      have h1 := HNE.out
      rw [HDR.out, if_neg hez] at h1
      rw [← h1]
      exact ⟨hez, rfl⟩
  ·obtain rfl : i = n := by omega
   have HNR := hid (show nerr l = 0 ∧ f = nst (fun _ => none) l from by
    have e : l.drop i = [] := List.drop_eq_nil_of_le (by rw [HN.out]; exact Nat.le_refl _)
    have h1 := HNE.out
    have h2 := HNS.out
    rw [e] at h1 h2
    exact ⟨h1.symm, h2⟩)
   obtain ⟨wo, rfl⟩ : ∃ x, x = wr := ⟨_, rfl⟩
   obtain ⟨V, CK, hBV, CS⟩ := hkeysOf_any HMP.out (by have := HM.out; omega)
   have BV := hid hBV
   have CK := hid CK
   have CS := hid CS
   have HBL := hid (show b < wo.heap.size from HMP.out.lt)
   have SZ := hid (show b ≤ wo.heap.size from by rw [← HB.out]; exact BW.out.size)
   clear hBV hlt hin HNE HNS
   obtain ⟨vs, hvs⟩ : ∃ s, wo.heap.size = s := ⟨_, rfl⟩
   have HVS := hid hvs
   rw [hvs] at CK CS
   clear hvs
   go_upto_region 14 with (first | (go_at_call 24; with_reducible refine CK.out.mono ?_; rintro e w1 ⟨rfl, h1⟩; subst h1) | (go_at_call 23; with_reducible refine CS.out.mono ?_; rintro e w2 ⟨ks, q, d, kn, hkn, rfl, h1, h2, h3, h4, h5⟩; have HKN := hid hkn; have H1 := hid h1; have H2 := hid h2; have H3 := hid h3; have H4 := hid h4; have H5 := hid h5; clear hkn h1 h2 h3 h4 h5))
   clear CK CS
   have B2 := hid (btr BV.out H5.out)
   have HM2 := hid (HMP.out.on B2.out)
   obtain ⟨g2, hg2⟩ : ∃ s, w2.heap.size = s := ⟨_, rfl⟩
   have HG2 := hid hg2
   clear hg2
   go_loopw [8, 40] (fun ov iv wr => ∃ (j : Nat) (q1 : Option Addr) (d1 : Nat), j ≤ kn ∧ iv = .int .i64 (j : Nat) ∧ ov = .slice q1 j d1 ∧ Hid (wr.ownsRow g2 38 6 (.slice q1 j d1) j (ncs (netsOf f (ks.take j)))) ∧ Hid (Below g2 w2 wr)) (fun _ iv _ => kn - (intOf iv).toNat)
   case atStart => exact ⟨0, none, 0, Nat.zero_le _, rfl, rfl, own_nil _ _ _ _, by rw [← HG2.out]; exact Below.refl _ _⟩
   case round =>
    obtain ⟨j, q1, d1, hjn, rfl, rfl, HO, BJ⟩ := hrel
    have BWJ := hid (show Below b w wr from by
     have h1 : Below b w w2 := BW.out.trans (B2.out.mono SZ.out)
     exact h1.trans (BJ.out.mono (by rw [← HG2.out, ← HB.out]; exact h1.size)))
    by_cases hlt : j < kn
    ·have hj' : j < ks.length := by rw [HKN.out]; exact hlt
     obtain ⟨kb, ko, rfl, hkb, kd0, kd1⟩ := H4.out j hj'
     have kc0 := (BJ.out.cell (p := ⟨kb, ko + j * 2, none⟩) (by rw [← HG2.out]; exact hkb)).trans kd0
     have kc1 := (BJ.out.cell (p := ⟨kb, ko + j * 2 + 1, none⟩) (by rw [← HG2.out]; exact hkb)).trans kd1
     clear kd0 kd1
     have HU := hid (H1.out.u ks[j] (List.getElem_mem hj'))
     have HTK := hid (show ks.take (j + 1) = ks.take j ++ [ks[j]] from (List.take_append_getElem hj').symm)
     obtain ⟨kk, hkk⟩ : ∃ x, ks[j] = x := ⟨_, rfl⟩
     rw [hkk] at kc0 kc1 HU HTK
     obtain ⟨km, ki⟩ := kk
     dsimp only at kc0 kc1
     obtain ⟨vv, hvv⟩ : ∃ x, (f (km, ki)).getD n0 = x := ⟨_, rfl⟩
     obtain ⟨vb, vs', va⟩ := vv
     have LK := hid (show ∀ U, Mp kvN U b (2 * i) f → _ from fun U h => lkN h HU.out.1 HU.out.2 hvv)
     have HMJ := hid (HM2.out.same (BJ.out.block b (by have := HM2.out.lt; rw [HG2.out] at this; exact this)))
     have HVV := hid hvv
     have j0 : (0 : Int) ≤ (j : Int) := by omega
     have j1 : (j : Int) < (kn : Int) := by omega
     have HLE := hid (show j + 1 ≤ 2000000000 from by have := HM.out; have := H3.out; omega)
     have wj : IntKind.i64.wrap ((j : Int) + 1) = ((j + 1 : Nat) : Int) := by have := HLE.out; rw [IntKind.wrap_i64]; omega
     have HLT := hid hlt
     clear hlt hjn hj' hkb hkk hvv
     have HZR := hid (World.alloc_heap_new wr (.cells #[.int .u32 0, .int .u32 0] 79))
     go_upto_region 16 with (refine wpList_store_row (by rfl) 79 (.tmp 10) (.tmp 43) (by rfl) wr.heap.size #[.int .u32 km, .int .u32 ki] (by rfl) (by rfl) 79 _ HZR.out infoH2 (by rfl) (by simp [Value.oneCell']) ?_)
     obtain ⟨X, hX⟩ : ∃ X, (wr.alloc (.cells #[.int .u32 0, .int .u32 0] 79)).setRow wr.heap.size #[.int .u32 km, .int .u32 ki] = X := ⟨_, rfl⟩
     have GX := hid (show X.heap[wr.heap.size]? = some (.cells #[.int .u32 km, .int .u32 ki] 79 (0, 0)) from by rw [← hX]; exact setRow_heap _ _ _ _ 79 (0, 0) HZR.out)
     have BX := hid (show Below wr.heap.size wr X from by rw [← hX]; exact setRow_below (ball _ _) (Nat.le_refl _))
     rw [hX]
     obtain ⟨x, hx⟩ : ∃ y, wr.heap.size = y := ⟨_, rfl⟩
     have HX := hid hx
     rw [hx] at GX ⊢
     clear hX HZR hx kc0 kc1
     have HMX := hid (HMJ.out.on BX.out)
     have lk := LK.out X HMX.out
     have x0 := row_cell GX.out 0
     have x1 := row_cell GX.out 1
     simp only [lqA, lqB, lqC] at x0 x1
     have HZ2 := hid (World.alloc_heap_new X (.cells #[.int .u32 0, .int .u32 0, .int .u64 0, .int .u64 0, .int .u64 0, .int .u64 0] 38))
     go_upto_region 17 with (refine wpList_store_row (by rfl) 38 (.tmp 11) (.tmp 46) (by rfl) X.heap.size #[.int .u32 0, .int .u32 0, .int .u64 vb, .int .u64 vs', .int .u64 (hiW va), .int .u64 (loW va)] (by rfl) (by rfl) 38 _ HZ2.out infoN6 (by rfl) (by simp [Value.oneCell']) ?_)
     obtain ⟨Q, hQ⟩ : ∃ X9, (X.alloc (.cells #[.int .u32 0, .int .u32 0, .int .u64 0, .int .u64 0, .int .u64 0, .int .u64 0] 38)).setRow X.heap.size #[.int .u32 0, .int .u32 0, .int .u64 vb, .int .u64 vs', .int .u64 (hiW va), .int .u64 (loW va)] = X9 := ⟨_, rfl⟩
     have RY := hid (show Q.heap[X.heap.size]? = some (.cells #[.int .u32 0, .int .u32 0, .int .u64 vb, .int .u64 vs', .int .u64 (hiW va), .int .u64 (loW va)] 38 (0, 0)) from by rw [← hQ]; exact setRow_heap _ _ _ _ 38 (0, 0) HZ2.out)
     have BQ := hid (show Below X.heap.size X Q from by rw [← hQ]; exact setRow_below (ball _ _) (Nat.le_refl _))
     rw [hQ]
     have NXY := hid (show ¬ x = X.heap.size from by have := row_lt GX.out; omega)
     have LYX := hid (show wr.heap.size ≤ X.heap.size from BX.out.size)
     obtain ⟨y, hy⟩ : ∃ y, X.heap.size = y := ⟨_, rfl⟩
     rw [hy] at RY NXY LYX ⊢
     have RX := hid (row_on GX.out BQ.out)
     have BRQ := hid (btr BX.out BQ.out)
     clear hQ hy HZ2 lk x0 x1 GX
     refine reg_cut (X := Unit) (fun a _ => ((((((a.put (some 47) (.pointer (some ⟨x, 0, none⟩))).put (some 48) (.int .u32 km)).put (some 49) (.pointer (some ⟨x, 1, none⟩))).put (some 50) (.int .u32 ki)).put (some 51) (.pointer (some ⟨y, 0, none⟩))).put (some 52) (.pointer (some ⟨y, 1, none⟩)))) (fun _ V9 => Hid (Kp (fun j => j = y) Q V9) ∧ Hid (V9.heap[y]? = some (.cells #[.int .u32 km, .int .u32 ki, .int .u64 vb, .int .u64 vs', .int .u64 (hiW va), .int .u64 (loW va)] 38 (0, 0)))) ?_ ?_
     ·obtain ⟨V1, hV1⟩ : ∃ U, Q.drew = U := ⟨_, rfl⟩
      have rX1 := hid (row_on RX.out (show Below Q.heap.size Q V1 from by rw [← hV1]; exact bdrew1 _))
      have rY1 := hid (row_on RY.out (show Below Q.heap.size Q V1 from by rw [← hV1]; exact bdrew1 _))
      have kK1 := hid (show Kp (fun j => j = y) Q V1 from by rw [← hV1]; exact Kp.of _ (bdrew1 _))
      refine wp_region_held_drew (S := (fun U => U.cell? ⟨x, 0, none⟩ = some (.int .u32 km) ∧ U.cell? ⟨x, 1, none⟩ = some (.int .u32 ki))) (by kernel_rfl) ?_ (fun hHeld => ?_)
      ·(try dsimp only); rw [hV1]; exact ⟨row_cell rX1.out 0, row_cell rX1.out 1⟩
      rw [hV1] at hHeld ⊢
      clear hV1
      refine' tkz 0 rfl ?_ ?_
      rotate_left
      ·(intro w hSw; (try dsimp only at hSw); go_simp; try (with_reducible rfl))
      try simp only [lgA, lgB, lgC, Act.put, lsA, lsB, lsC]
      refine' tkz 1 rfl ?_ ?_
      rotate_left
      ·(intro w hSw; (try dsimp only at hSw); go_simp; try (with_reducible rfl))
      try simp only [lgA, lgB, lgC, Act.put, lsA, lsB, lsC]
      refine' tkz 2 rfl ?_ ?_
      rotate_left
      ·(intro w hSw; (try dsimp only at hSw); go_simp; try (with_reducible rfl))
      try simp only [lgA, lgB, lgC, Act.put, lsA, lsB, lsC]
      refine' tkz 3 rfl ?_ ?_
      rotate_left
      ·(intro w hSw; (try dsimp only at hSw); go_simp; try (with_reducible rfl))
      try simp only [lgA, lgB, lgC, Act.put, lsA, lsB, lsC]
      refine' tkz 4 rfl ?_ ?_
      rotate_left
      ·(intro w hSw; (try dsimp only at hSw); go_simp; try (with_reducible rfl))
      try simp only [lgA, lgB, lgC, Act.put, lsA, lsB, lsC]
      refine wpAnyH_ready (rs := [5]) (by kernel_rfl) (by simp) ?_
      refine (AllReadyH.cons rfl (fun K hK => ?_) AllReadyH.nil)
      have z0 := row_cell rY1.out 0
      simp only [lqA, lqB, lqC] at z0
      have f0 := row_frz rY1.out 0
      go_simp
      obtain ⟨Y2, hY⟩ : ∃ Z9, V1.setCell ⟨y, 0, none⟩ (.int .u32 km) = Z9 := ⟨_, rfl⟩
      have kx := hid (show Kp (fun j => j = y) V1 Y2 from by rw [← hY]; exact Kp.set _ _ _ _)
      have rX2 := hid (kx.out.row rX1.out NXY.out)
      have rY2 := hid (show Y2.heap[y]? = some (.cells #[.int .u32 km, .int .u32 0, .int .u64 vb, .int .u64 vs', .int .u64 (hiW va), .int .u64 (loW va)] 38 (0, 0)) from by rw [← hY]; exact set_row _ rY1.out (by rfl))
      have kK2 := hid (kK1.out.trans kx.out (fun g _ e => e))
      rw [hY]
      refine hK.out _ _ ?_ (fun hHeld => ?_)
      ·(try dsimp only); exact ⟨row_cell rX2.out 0, row_cell rX2.out 1⟩
      clear hK K z0 f0 hY kx
      try simp only [lgA, lgB, lgC, Act.put, lsA, lsB, lsC]
      refine' tkz 6 rfl ?_ ?_
      rotate_left
      ·(intro w hSw; (try dsimp only at hSw); go_simp; try (with_reducible rfl))
      try simp only [lgA, lgB, lgC, Act.put, lsA, lsB, lsC]
      refine wpAnyH_ready (rs := [7]) (by kernel_rfl) (by simp) ?_
      refine (AllReadyH.cons rfl (fun K hK => ?_) AllReadyH.nil)
      have z0 := row_cell rY2.out 1
      simp only [lqA, lqB, lqC] at z0
      have f0 := row_frz rY2.out 1
      go_simp
      obtain ⟨Y3, hY⟩ : ∃ Z9, Y2.setCell ⟨y, 1, none⟩ (.int .u32 ki) = Z9 := ⟨_, rfl⟩
      have kx := hid (show Kp (fun j => j = y) Y2 Y3 from by rw [← hY]; exact Kp.set _ _ _ _)
      have rX3 := hid (kx.out.row rX2.out NXY.out)
      have rY3 := hid (show Y3.heap[y]? = some (.cells #[.int .u32 km, .int .u32 ki, .int .u64 vb, .int .u64 vs', .int .u64 (hiW va), .int .u64 (loW va)] 38 (0, 0)) from by rw [← hY]; exact set_row _ rY2.out (by rfl))
      have kK3 := hid (kK2.out.trans kx.out (fun g _ e => e))
      rw [hY]
      refine hK.out _ _ ?_ (fun hHeld => ?_)
      ·(try dsimp only); exact ⟨row_cell rX3.out 0, row_cell rX3.out 1⟩
      clear hK K z0 f0 hY kx
      try simp only [lgA, lgB, lgC, Act.put, lsA, lsB, lsC]
      refine wpAnyH_done (by kernel_rfl) ?_ _
      exact ⟨(), by kernel_rfl, kK3, rY3⟩
     rintro _ U4 ⟨KU, GU⟩
     try simp only [lgA, lgB, lgC, Act.put, lsA, lsB, lsC]
     have BU := hid (show Below wr.heap.size wr U4 from BRQ.out.trans (KU.out.below BRQ.out.size (fun g hg e => by have := LYX.out; omega)))
     have y0 := row_cell GU.out 0
     have y1 := row_cell GU.out 1
     have y2 := row_cell GU.out 2
     have y3 := row_cell GU.out 3
     have y4 := row_cell GU.out 4
     have y5 := row_cell GU.out 5
     simp only [lqA, lqB, lqC] at y0 y1 y2 y3 y4 y5
     obtain ⟨V3, hV3⟩ : ∃ V3, U4.alloc (.cells #[.int .u32 km, .int .u32 ki, .int .u64 vb, .int .u64 vs', .int .u64 (hiW va), .int .u64 (loW va)] 38) = V3 := ⟨_, rfl⟩
     obtain ⟨s2, hs2⟩ : ∃ s, U4.heap.size = s := ⟨_, rfl⟩
     have RV := hid (show V3.heap[s2]? = some (.cells #[.int .u32 km, .int .u32 ki, .int .u64 vb, .int .u64 vs', .int .u64 (hiW va), .int .u64 (loW va)] 38 (0, 0)) from by rw [← hV3, ← hs2]; exact World.alloc_heap_new _ _)
     have BVV := hid (show Below wr.heap.size wr V3 from btr BU.out (by rw [← hV3]; exact ball _ _))
     have HOV := hid (own_on HO.out BVV.out)
     have HV := hid hV3
     have HS2 := hid hs2
     have HGE := hid (show g2 ≤ V3.heap.size from by rw [← HG2.out]; exact Nat.le_trans BJ.out.size BVV.out.size)
     clear hV3 hs2
     go_wp2_with (rw [HV.out, HS2.out]; at_builtin; refine Ss.wpList_app_rd (by rfl) (.tmp 53) (.tmp 55) 24 38 _ 6 40 (by rfl) Tryz.underlying24 infoN40 rfl (by decide) g2 _ j _ (by rfl) HOV.out (some ⟨s2, 0, none⟩) 1 1 [.int .u32 km, .int .u32 ki, .int .u64 vb, .int .u64 vs', .int .u64 (hiW va), .int .u64 (loW va)] (by rfl) (fun e => by cases e) rfl (fun ad ea t u hu => by cases ea; exact row_rd RV.out hu) (by simp [Value.oneCell']) (by have := HLE.out; unfold maxLen; omega) (by have := HLE.out; omega) HGE.out ?_; intro v' w' hown hgrow; obtain ⟨q2, d2, rfl⟩ := own_form hown; have HO2 := hid hown; have HG3 := hid hgrow; clear hown hgrow)
     go_roundw
     case rel =>
      refine ⟨j + 1, q2, d2, HLT.out, by go_num, rfl, hid ?_, hid ?_⟩
      ·have e : netsOf f (ks.take (j + 1)) = netsOf f (ks.take j) ++ [⟨km, ki, vb, vs', va⟩] := by
        rw [HTK.out]
        unfold netsOf
        rw [List.map_append, List.map_cons, List.map_nil, HVV.out]
       rw [e, ncs_snoc]
       exact HO2.out
      ·exact (BJ.out.trans (BVV.out.mono (by rw [← HG2.out]; exact BJ.out.size))).grown HG3.out HGE.out (fun z hz => (own_lo HOV.out hz).1)
     case measure => have := HLT.out; simp [intOf]; omega
    ·obtain rfl : j = kn := by omega
     have jn : ¬ (j : Int) < (j : Int) := by omega
     go_wp2
     go_ret2
     refine ⟨.inr ⟨HNR.out.1, netsOf f ks, q1, d1, j, ?_, rfl, ?_, ?_, ?_⟩, by rw [HB.out]; exact BWJ.out⟩
     ·unfold netsOf; rw [List.length_map]; exact HKN.out
     ·rw [← HNR.out.2]; exact relnOf H1.out H2.out HOF.out
     ·have h1 := HO.out
      rw [List.take_of_length_le (by rw [HKN.out]; exact Nat.le_refl _)] at h1
      exact own_base h1 (by rw [← HG2.out]; exact (BW.out.trans (B2.out.mono SZ.out)).size)
     ·rw [HN.out]; exact H3.out
end Go.Proofs.YtlhbgaiiehljpaaGreat.Ac
