/-
  CdC
-/
import Derived.Test.YtlhbgaiiehljpaaGreatCdB
namespace Go.Proofs.YtlhbgaiiehljpaaGreat.Ac
open Go.RowKit Go.Deep Go.Maps MonM Go.Proofs.YtlhbgaiiehljpaaGreat
set_option linter.unusedVariables false
set_option linter.unusedSimpArgs false
set_option maxHeartbeats 8000000
set_option maxRecDepth 100000
attribute [local go_sem ↓] Go.wp_at_zero Go.wp_at_succ
def Nt.ok (x : Nt) : Prop := U32 x.m ∧ Amt x.a
/-- nets in a slice. -/
def Nz (w : World) (p : Option Addr) (l : List Nt) : Prop := ∀ k (h : k < l.length), ∃ b off, p = some ⟨b, off, none⟩ ∧ b < w.heap.size ∧ ∀ j, j < 6 → w.cell? ⟨b, off + k * 6 + j, none⟩ = (#[.int .u32 l[k].m, .int .u32 l[k].i, .int .u64 l[k].b, .int .u64 l[k].s, .int .u64 (hiW l[k].a), .int .u64 (loW l[k].a)] : Array Value)[j]?
/-- sums by members; none: a sum is no amount. -/
def dues : (Int → Option Int) → List (Int × Int) → Option (Int → Option Int)
 | f, [] => some f
 | f, x :: r => if maddE ((f x.1).getD 0) x.2 = 0 then dues (upd f x.1 (maddV ((f x.1).getD 0) x.2)) r else none
def nma (l : List Nt) : List (Int × Int) := l.map (fun x => (x.m, x.a))
/-- the sums, one behind the other. -/
structure Rel (f : Int → Option Int) (r : List (Int × Int)) : Prop where
 up : (r.map (·.1)).Pairwise (· < ·)
 ok : ∀ x ∈ r, U32 x.1 ∧ Amt x.2
 iff : ∀ m v, U32 m → (f m = some v ↔ (m, v) ∈ r)
def dcs (r : List (Int × Int)) : List Value := r.flatMap (fun x => [.int .u32 x.1, .int .u64 (hiW x.2), .int .u64 (loW x.2)])
theorem dcs_snoc (r : List (Int × Int)) (x : Int × Int) : dcs (r ++ [x]) = dcs r ++ [.int .u32 x.1, .int .u64 (hiW x.2), .int .u64 (loW x.2)] := by simp [dcs]
/-- what Dues says. -/
def DuP (base : Nat) (w' : World) (e : Ending) : Option (Int → Option Int) → Prop
 | none => e = .returned (.tuple #[.slice none 0 0, .int .i64 10])
 | some f => ∃ (r : List (Int × Int)) (q : Option Addr) (d n : Nat), r.length = n ∧ e = .returned (.tuple #[.slice q n d, .int .i64 0]) ∧ Rel f r ∧ w'.ownsRow base 40 3 (.slice q n d) n (dcs r)
theorem infoD3 : (Tryz.prog.info? 40).map (fun i => (i.zero, i.size, i.bytes)) = some (some (.agg #[.int .u32 0, .int .u64 0, .int .u64 0]), 3, 24) := by kernel_rfl
theorem maddE_or (a b : Int) : maddE a b = 0 ∨ maddE a b = 10 := by unfold maddE; split <;> simp
theorem relOf {f : Int → Option Int} {l : List Int} (h : Ks f l) (hs : l.Pairwise (· ≤ ·)) (ha : ∀ m v, f m = some v → Amt v) : Rel f (l.map (fun k => (k, (f k).getD 0))) := by
 refine ⟨?_, fun x hx => ?_, fun m v hm => ?_⟩
 ·rw [List.map_map]
  have : ((fun x : Int × Int => x.1) ∘ fun k => (k, (f k).getD 0)) = id := rfl
  rw [this, List.map_id]
  have h1 := h.nd
  exact (hs.and h1).imp (fun ⟨a, b⟩ => by omega)
 ·obtain ⟨k, hk, rfl⟩ := List.mem_map.1 hx
  have hu := h.u k hk
  have := (h.iff k hu).1 hk
  obtain ⟨v, hv⟩ := Option.isSome_iff_exists.1 this
  refine ⟨hu, ?_⟩
  show Amt ((f k).getD 0)
  rw [hv]
  exact ha k v hv
 ·rw [List.mem_map]
  constructor
  ·intro e
   exact ⟨m, (h.iff m hm).2 (by rw [e]; rfl), by rw [e]; rfl⟩
  ·rintro ⟨k, hk, e⟩
   injection e with e1 e2
   subst e1
   have := (h.iff k hm).1 hk
   obtain ⟨u, hu⟩ := Option.isSome_iff_exists.1 this
   rw [hu] at e2 ⊢
   simpa using e2
theorem dues_any {w : World} {p : Option Addr} {c : Nat} {l : List Nt} (hz : Nz w p l) (hok : ∀ x ∈ l, x.ok) (hm : l.length ≤ 1000000000) :
  Calls Tryz.prog 7 #[.slice p l.length c] w fun e w' => DuP w.heap.size w' e (dues (fun _ => none) (nma l)) ∧ Below w.heap.size w w' := by
 obtain ⟨n, hn⟩ : ∃ n, l.length = n := ⟨_, rfl⟩
 obtain ⟨W0, hW0⟩ : ∃ W, w.alloc (.map #[] 0) = W := ⟨_, rfl⟩
 have BW0 := hid (show Below w.heap.size w W0 from by rw [← hW0]; exact ball _ _)
 have MP0 := hid (show Mp kvU W0 w.heap.size 0 (fun _ => none) from by rw [← hW0]; exact Mp.made kvU w)
 obtain ⟨b, hb⟩ : ∃ b, w.heap.size = b := ⟨_, rfl⟩
 have HB := hid hb
 have HZ := hid hz
 have HOK := hid hok
 have HN := hid hn
 have HM := hid (show n ≤ 1000000000 from by rw [← hn]; exact hm)
 rw [hb] at MP0
 rw [hn]
 have rm : (Instr.makeMap 85 none).run Tryz.prog w = .ok (.map (some b)) W0 := by rw [← hb, ← hW0]; rfl
 clear hz hok hm hn hW0 hb
 go_enter Tryz.func7, Tryz.ntmps7
 go_upto_region 2 with fail
 clear rm
 go_upto_region 3 with fail
 go_loopw [15] (fun iv wr => ∃ i, i ≤ n ∧ iv = .int .i64 (i : Nat) ∧ Hid (Below b w wr) ∧ Hid (∃ f, Mp kvU wr b i f ∧ (∀ m v, f m = some v → Amt v) ∧ dues f (nma (l.drop i)) = dues (fun _ => none) (nma l))) (fun iv _ => n - (intOf iv).toNat)
 case atStart => exact ⟨0, Nat.zero_le _, rfl, by rw [← HB.out]; exact BW0, ⟨_, MP0.out, fun m v h => (by cases h), by rw [List.drop_zero]⟩⟩
 case round =>
  obtain ⟨i, hin, rfl, BW, HF⟩ := hrel
  clear MP0 BW0
  obtain ⟨f, hmp, hamt, hdu⟩ := HF.out
  have HMP := hid hmp
  have HAM := hid hamt
  have HDU := hid hdu
  clear hmp hamt hdu HF
  by_cases hlt : i < n
  ·have hi' : i < l.length := by rw [HN.out]; exact hlt
   obtain ⟨z, off, rfl, hbl, hc⟩ := HZ.out i hi'
   have ok := HOK.out _ (List.getElem_mem hi')
   have hdr : l.drop i = l[i] :: l.drop (i + 1) := List.drop_eq_getElem_cons hi'
   have HDU := hid (show dues f (nma (l[i] :: l.drop (i + 1))) = dues (fun _ => none) (nma l) from by rw [← hdr]; exact HDU.out)
   clear hdr
   generalize l[i] = x at hc ok HDU
   obtain ⟨m, ii, bo, so, am⟩ := x
   obtain ⟨hum, ham⟩ := ok
   have hum : U32 m := hum
   have ham : Amt am := ham
   have KC := fun j (hj : j < 6) => (BW.out.cell (p := ⟨z, off + i * 6 + j, none⟩) (by rw [← HB.out]; exact hbl)).trans (hc j hj)
   have c0 : wr.cell? ⟨z, off + i * 6, none⟩ = some (.int .u32 m) := KC 0 (by decide)
   have c1 : wr.cell? ⟨z, off + i * 6 + 1, none⟩ = some (.int .u32 ii) := KC 1 (by decide)
   have c2 : wr.cell? ⟨z, off + i * 6 + 2, none⟩ = some (.int .u64 bo) := KC 2 (by decide)
   have c3 : wr.cell? ⟨z, off + i * 6 + 3, none⟩ = some (.int .u64 so) := KC 3 (by decide)
   have c4 : wr.cell? ⟨z, off + i * 6 + 4, none⟩ = some (.int .u64 (hiW am)) := KC 4 (by decide)
   have c5 : wr.cell? ⟨z, off + i * 6 + 5, none⟩ = some (.int .u64 (loW am)) := KC 5 (by decide)
   clear KC hc
   obtain ⟨old, hold⟩ : ∃ x, (f m).getD 0 = x := ⟨_, rfl⟩
   have HAO := hid (show Amt old from by
    rw [← hold]
    cases e : f m with
    | none => exact ⟨by decide, by decide⟩
    | some v => exact HAM.out m v e)
   have CA := hid (fun U => madd_any old am U HAO.out ham)
   have HMV := hid (madd_amt old am)
   have HST := hid (show dues f ((m, am) :: nma (l.drop (i + 1))) = if maddE old am = 0 then dues (upd f m (maddV old am)) (nma (l.drop (i + 1))) else none from by rw [dues, hold])
   obtain ⟨er, her⟩ : ∃ x, maddE old am = x := ⟨_, rfl⟩
   obtain ⟨nv, hnv⟩ : ∃ x, maddV old am = x := ⟨_, rfl⟩
   have HER := hid (show er = 0 ∨ er = 10 from by rw [← her]; exact maddE_or _ _)
   rw [her, hnv] at CA HST
   rw [hnv] at HMV
   obtain ⟨hh, hhh⟩ : ∃ x, hiW am = x := ⟨_, rfl⟩
   obtain ⟨hl, hhl⟩ : ∃ x, loW am = x := ⟨_, rfl⟩
   unfold mv at CA
   rw [hhh] at c4 CA
   rw [hhl] at c5 CA
   have LK := hid (show ∀ U, Below wr.heap.size wr U → (Instr.lookup 85 (.map (some b)) (.int .u32 m) false).run Tryz.prog U = .ok (.agg #[.int .u64 (hiW old), .int .u64 (loW old)]) U from fun U hU => by
    have h1 := (HMP.out.on hU).get okU m hum
    have h2 : kvU.val ((f m).getD kvU.zero) = .agg #[.int .u64 (hiW old), .int .u64 (loW old)] := by rw [show kvU.zero = (0 : Int) from rfl, hold]; rfl
    rw [h2] at h1
    exact h1)
   have i0 : (0 : Int) ≤ (i : Int) := by omega
   have i1 : (i : Int) < (n : Int) := by omega
   have wi : IntKind.i64.wrap ((i : Int) + 1) = ((i + 1 : Nat) : Int) := by have := HM.out; rw [IntKind.wrap_i64]; omega
   have HLT := hid hlt
   have HUM := hid hum
   have HBL := hid (show b < wr.heap.size from HMP.out.lt)
   clear hlt hin hi' hbl hold her hnv hhh hhl hum ham
   have HZR := hid (World.alloc_heap_new wr (.cells #[.int .u32 0, .int .u32 0, .int .u64 0, .int .u64 0, .int .u64 0, .int .u64 0] 38))
   go_upto_region 5 with (refine wpList_store_row (by rfl) 38 (.tmp 6) (.tmp 18) (by rfl) wr.heap.size #[.int .u32 m, .int .u32 ii, .int .u64 bo, .int .u64 so, .int .u64 hh, .int .u64 hl] (by rfl) (by rfl) 38 _ HZR.out infoN6 (by rfl) (by simp [Value.oneCell']) ?_)
   obtain ⟨X, hX⟩ : ∃ X, (wr.alloc (.cells #[.int .u32 0, .int .u32 0, .int .u64 0, .int .u64 0, .int .u64 0, .int .u64 0] 38)).setRow wr.heap.size #[.int .u32 m, .int .u32 ii, .int .u64 bo, .int .u64 so, .int .u64 hh, .int .u64 hl] = X := ⟨_, rfl⟩
   have GX := hid (show X.heap[wr.heap.size]? = some (.cells #[.int .u32 m, .int .u32 ii, .int .u64 bo, .int .u64 so, .int .u64 hh, .int .u64 hl] 38 (0, 0)) from by rw [← hX]; exact setRow_heap _ _ _ _ 38 (0, 0) HZR.out)
   have BX := hid (show Below wr.heap.size wr X from by rw [← hX]; exact setRow_below (ball _ _) (Nat.le_refl _))
   rw [hX]
   obtain ⟨y, hy⟩ : ∃ y, wr.heap.size = y := ⟨_, rfl⟩
   have HY := hid hy
   rw [hy] at GX ⊢
   clear hX HZR hy c0 c1 c2 c3 c4 c5
   have g0 := row_cell GX.out 0
   have g4 := row_cell GX.out 4
   have g5 := row_cell GX.out 5
   simp only [List.getElem?_toArray, List.getElem?_cons_succ, List.getElem?_cons_zero] at g0 g4 g5
   have lk := LK.out X BX.out
   go_upto_region 6 with (first | (go_at_call 26; with_reducible refine (CA.out X).mono ?_; rintro e X2 ⟨rfl, hbx⟩; have B2 := hid hbx; clear hbx; have HZ2 := hid (World.alloc_heap_new X2 (.cells #[.int .u64 0, .int .u64 0] 33))) | (refine wpList_store_row (by rfl) 33 (.tmp 7) (.tmp 27) (by rfl) X2.heap.size #[.int .u64 (hiW nv), .int .u64 (loW nv)] (by rfl) (by rfl) 33 _ HZ2.out infoM2 (by rfl) (by simp [Value.oneCell']) ?_))
   obtain ⟨Y, hY⟩ : ∃ Y, (X2.alloc (.cells #[.int .u64 0, .int .u64 0] 33)).setRow X2.heap.size #[.int .u64 (hiW nv), .int .u64 (loW nv)] = Y := ⟨_, rfl⟩
   have GY := hid (show Y.heap[X2.heap.size]? = some (.cells #[.int .u64 (hiW nv), .int .u64 (loW nv)] 33 (0, 0)) from by rw [← hY]; exact setRow_heap _ _ _ _ 33 (0, 0) HZ2.out)
   have BY := hid (show Below X2.heap.size X2 Y from by rw [← hY]; exact setRow_below (ball _ _) (Nat.le_refl _))
   rw [hY]
   obtain ⟨y2, hy2⟩ : ∃ y, X2.heap.size = y := ⟨_, rfl⟩
   rw [hy2] at GY ⊢
   have GX2 := hid (row_on (row_on GX.out B2.out) BY.out)
   have BXY := hid (btr (btr BX.out B2.out) BY.out)
   have BWY := hid (show Below b w Y from BW.out.trans (BXY.out.mono (by have := HBL.out; omega)))
   have HMY := hid (HMP.out.on BXY.out)
   clear hY HZ2 hy2 g0 g4 g5 lk LK CA GX B2 BY BX
   have g0 := row_cell GX2.out 0
   have k0 := row_cell GY.out 0
   have k1 := row_cell GY.out 1
   simp only [List.getElem?_toArray, List.getElem?_cons_succ, List.getElem?_cons_zero] at g0 k0 k1
   rcases HER.out with e0 | e0
   ·subst e0
    obtain ⟨Z, hmu, hM, hK9⟩ := HMY.out.put okU (by unfold maxLen; have := HLT.out; have := HM.out; omega) m HUM.out nv
    have hmu : (Instr.mapUpdate 85 (.map (some b)) (.int .u32 m) (.agg #[.int .u64 (hiW nv), .int .u64 (loW nv)])).run Tryz.prog Y = .ok () Z := hmu
    have HMZ := hid hM
    have HKZ := hid hK9
    clear hM hK9
    go_wp2
    go_roundw
    case rel =>
     refine ⟨i + 1, HLT.out, by go_num, BWY.out.trans (HKZ.out.below (by rw [← HB.out]; exact BWY.out.size) (fun j hj e => by omega)), ⟨_, HMZ.out, fun m' v' h' => ?_, ?_⟩⟩
     ·by_cases e : m' = m
      ·subst e
       rw [upd_same] at h'
       cases h'
       exact HMV.out
      ·rw [upd_other _ _ e] at h'
       exact HAM.out m' v' h'
     ·have h1 := HST.out
      rw [if_pos rfl] at h1
      rw [← h1]
      exact HDU.out
    case measure => have := HLT.out; simp [intOf]; omega
   ·subst e0
    go_wp2
    go_ret2
    refine ⟨?_, by rw [HB.out]; exact BWY.out⟩
    have h1 := HST.out
    rw [if_neg (by decide)] at h1
    have h2 := HDU.out
    rw [← h2, show nma (⟨m, ii, bo, so, am⟩ :: l.drop (i + 1)) = (m, am) :: nma (l.drop (i + 1)) from rfl, h1]
    rfl
  ·obtain rfl : i = n := by omega
   have HDE := hid (show dues (fun _ => none) (nma l) = some f from by
    have h1 := HDU.out
    rw [show l.drop i = [] from List.drop_eq_nil_of_le (by rw [HN.out]; exact Nat.le_refl _)] at h1
    rw [← h1]; rfl)
   obtain ⟨wo, rfl⟩ : ∃ x, x = wr := ⟨_, rfl⟩
   obtain ⟨V, CK, hBV, CS⟩ := keysOf_any HMP.out (by have := HM.out; omega)
   have BV := hid hBV
   have CK := hid CK
   have CS := hid CS
   have HBL := hid (show b < wo.heap.size from HMP.out.lt)
   have SZ := hid (show b ≤ wo.heap.size from by rw [← HB.out]; exact BW.out.size)
   clear hBV hlt hin HDU
   obtain ⟨vs, hvs⟩ : ∃ s, wo.heap.size = s := ⟨_, rfl⟩
   have HVS := hid hvs
   rw [hvs] at CK CS
   clear hvs
   go_upto_region 12 with (first | (go_at_call 28; with_reducible refine CK.out.mono ?_; rintro e w1 ⟨rfl, h1⟩; subst h1) | (go_at_call 27; with_reducible refine CS.out.mono ?_; rintro e w2 ⟨ks, q, d, rfl, h1, h2, h3, h4, h5⟩; have H1 := hid h1; have H2 := hid h2; have H3 := hid h3; have H4 := hid h4; have H5 := hid h5; clear h1 h2 h3 h4 h5))
   clear CK CS
   obtain ⟨kn, hkn⟩ : ∃ x, ks.length = x := ⟨_, rfl⟩
   have HKN := hid hkn
   rw [hkn]
   have B2 := hid (btr BV.out H5.out)
   have HM2 := hid (HMP.out.on B2.out)
   obtain ⟨g2, hg2⟩ : ∃ s, w2.heap.size = s := ⟨_, rfl⟩
   have HG2 := hid hg2
   clear hg2 hkn
   go_loopw [9, 41] (fun ov iv wr => ∃ (j : Nat) (q1 : Option Addr) (d1 : Nat), j ≤ kn ∧ iv = .int .i64 (j : Nat) ∧ ov = .slice q1 j d1 ∧ Hid (wr.ownsRow g2 40 3 (.slice q1 j d1) j (dcs ((ks.take j).map (fun k => (k, (f k).getD 0))))) ∧ Hid (Below g2 w2 wr)) (fun _ iv _ => kn - (intOf iv).toNat)
   case atStart => exact ⟨0, none, 0, Nat.zero_le _, rfl, rfl, own_nil _ _ _ _, by rw [← HG2.out]; exact Below.refl _ _⟩
   case round =>
    obtain ⟨j, q1, d1, hjn, rfl, rfl, HO, BJ⟩ := hrel
    have BWJ := hid (show Below b w wr from by
     have h1 : Below b w w2 := BW.out.trans (B2.out.mono SZ.out)
     exact h1.trans (BJ.out.mono (by rw [← HG2.out, ← HB.out]; exact h1.size)))
    by_cases hlt : j < kn
    ·have hj' : j < ks.length := by rw [HKN.out]; exact hlt
     obtain ⟨kb, ko, rfl, hkb, kc0⟩ := H4.out j hj'
     have kc := (BJ.out.cell (p := ⟨kb, ko + j, none⟩) (by rw [← HG2.out]; exact hkb)).trans kc0
     clear kc0
     have HU := hid (H1.out.u ks[j] (List.getElem_mem hj'))
     have HTK := hid (show ks.take (j + 1) = ks.take j ++ [ks[j]] from (List.take_append_getElem hj').symm)
     obtain ⟨kk, hkk⟩ : ∃ x, ks[j] = x := ⟨_, rfl⟩
     rw [hkk] at kc HU HTK
     obtain ⟨vv, hvv⟩ : ∃ x, (f kk).getD 0 = x := ⟨_, rfl⟩
     have lk : (Instr.lookup 85 (.map (some b)) (.int .u32 kk) false).run Tryz.prog wr = .ok (.agg #[.int .u64 (hiW vv), .int .u64 (loW vv)]) wr := by
      have h1 := (HM2.out.same (BJ.out.block b (by have := HM2.out.lt; rw [HG2.out] at this; exact this))).get okU kk HU.out
      have h2 : kvU.val ((f kk).getD kvU.zero) = .agg #[.int .u64 (hiW vv), .int .u64 (loW vv)] := by rw [show kvU.zero = (0 : Int) from rfl, hvv]; rfl
      rw [h2] at h1
      exact h1
     have HVV := hid hvv
     have j0 : (0 : Int) ≤ (j : Int) := by omega
     have j1 : (j : Int) < (kn : Int) := by omega
     have wj : IntKind.i64.wrap ((j : Int) + 1) = ((j + 1 : Nat) : Int) := by have := HM.out; have := H3.out; have := HKN.out; rw [IntKind.wrap_i64]; omega
     have HLT := hid hlt
     have HLE := hid (show j + 1 ≤ 1000000000 from by have := HM.out; have := H3.out; have := HKN.out; omega)
     obtain ⟨V, hV⟩ : ∃ V, wr.alloc (.cells #[.int .u32 kk, .int .u64 (hiW vv), .int .u64 (loW vv)] 40) = V := ⟨_, rfl⟩
     obtain ⟨s2, hs2⟩ : ∃ s, wr.heap.size = s := ⟨_, rfl⟩
     have RV := hid (show V.heap[s2]? = some (.cells #[.int .u32 kk, .int .u64 (hiW vv), .int .u64 (loW vv)] 40 (0, 0)) from by rw [← hV, ← hs2]; exact World.alloc_heap_new _ _)
     have BVV := hid (show Below wr.heap.size wr V from by rw [← hV]; exact ball _ _)
     have HOV := hid (own_on HO.out BVV.out)
     have HV := hid hV
     have HS2 := hid hs2
     have HGE := hid (show g2 ≤ V.heap.size from by rw [← HG2.out]; exact Nat.le_trans BJ.out.size BVV.out.size)
     clear hlt hjn hj' hkb hkk hvv hV hs2
     go_wp2_with (rw [HV.out, HS2.out]; at_builtin; refine Ss.wpList_app_rd (by rfl) (.tmp 45) (.tmp 51) 28 40 _ 3 24 (by rfl) Tryz.underlying28 infoD3 rfl (by decide) g2 _ j _ (by rfl) HOV.out (some ⟨s2, 0, none⟩) 1 1 [.int .u32 kk, .int .u64 (hiW vv), .int .u64 (loW vv)] (by rfl) (fun e => by cases e) rfl (fun ad ea t u hu => by cases ea; exact row_rd RV.out hu) (by simp [Value.oneCell']) (by have := HLE.out; unfold maxLen; omega) (by have := HLE.out; omega) HGE.out ?_; intro v' w' hown hgrow; obtain ⟨q2, d2, rfl⟩ := own_form hown; have HO2 := hid hown; have HG3 := hid hgrow; clear hown hgrow)
     go_roundw
     case rel =>
      refine ⟨j + 1, q2, d2, HLT.out, by go_num, rfl, hid ?_, hid ?_⟩
      ·rw [HTK.out, List.map_append, List.map_cons, List.map_nil, dcs_snoc]
       have h1 := HO2.out
       rw [← HVV.out] at h1
       exact h1
      ·exact (BJ.out.trans (BVV.out.mono (by rw [← HG2.out]; exact BJ.out.size))).grown HG3.out HGE.out (fun z hz => (own_lo HOV.out hz).1)
     case measure => have := HLT.out; simp [intOf]; omega
    ·obtain rfl : j = kn := by omega
     have jn : ¬ (j : Int) < (j : Int) := by omega
     go_wp2
     go_ret2
     refine ⟨?_, by rw [HB.out]; exact BWJ.out⟩
     rw [HDE.out]
     refine ⟨_, q1, d1, j, ?_, rfl, relOf H1.out H2.out HAM.out, ?_⟩
     ·rw [List.length_map]; exact HKN.out
     ·have h1 := HO.out
      rw [List.take_of_length_le (by rw [HKN.out]; exact Nat.le_refl _)] at h1
      exact own_base h1 (by rw [← HG2.out]; exact (BW.out.trans (B2.out.mono SZ.out)).size)
end Go.Proofs.YtlhbgaiiehljpaaGreat.Ac
