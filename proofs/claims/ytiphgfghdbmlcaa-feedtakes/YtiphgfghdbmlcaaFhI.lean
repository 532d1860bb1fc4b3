/-
  Recover of any picture.
-/
import Derived.Test.YtiphgfghdbmlcaaFhF
import Derived.Test.YtiphgfghdbmlcaaFhG
import Derived.Test.YtiphgfghdbmlcaaFhH
namespace Go.Proofs.Ytiphgfghdbmlcaa
open Go.RowKit Go.Deep Go.Maps
set_option linter.unusedVariables false
set_option linter.unusedSimpArgs false
set_option maxHeartbeats 8000000
set_option maxRecDepth 100000
theorem infoP3 : (Try.prog.info? 30).map (·.size) = some 3 := by kernel_rfl
/-- what is still held. -/
def cf (ps : Int) (lf : Int → Bool) (L : List Dm) : List Dm := L.filter (fun d => decide (ps < d.sq) || lf d.sq)
theorem cf_all (ps : Int) (L : List Dm) : cf ps (hasN L) L = L := by
  unfold cf
  rw [List.filter_eq_self]
  intro d hd
  have : hasN L d.sq = true := by unfold hasN; rw [List.any_eq_true]; exact ⟨d, hd, by simp⟩
  rw [this]; simp
theorem cf_end {ps : Int} {lf : Int → Bool} {L : List Dm} (h : ∀ k, lf k = false) : cf ps lf L = L.filter (fun d => decide (ps < d.sq)) := by
  unfold cf
  congr 1
  funext d
  rw [h]; simp
theorem cf_keep {ps : Int} {lf : Int → Bool} {L : List Dm} {x : Int} (h : ps < x) : cf ps (fun k => lf k && !(k == x)) L = cf ps lf L := by
  unfold cf
  congr 1
  funext d
  by_cases e : d.sq = x
  · rw [e]; simp [h]
  · have : (d.sq == x) = false := by simpa using e
    simp only [this]; simp
theorem cf_drop {ps : Int} {lf : Int → Bool} {L : List Dm} {x : Int} (h : ¬ ps < x) : cf ps (fun k => lf k && !(k == x)) L = (cf ps lf L).filter (fun d => d.sq != x) := by
  unfold cf
  rw [List.filter_filter]
  congr 1
  funext d
  by_cases e : d.sq = x
  · rw [e]; simp [h]
  · have h1 : (d.sq == x) = false := by simpa using e
    have h2 : (d.sq != x) = true := by simpa using e
    simp only [h1, h2]; simp
theorem recover_no {w : World} {S M nm : Nat} {sq hold gr : Int} {p1 : Option Addr} {c1 : Nat} {l1 : List Lv} {p2 : Option Addr} {c2 : Nat} {l2 : List Lv} {L : List Dm} {la : Dm} (h : Sb w S M nm sq hold gr p1 c1 l1 p2 c2 l2 L la) (ps : Int) (b1 b2 : Option Addr) (d1 d2 : Nat) (m1 m2 : List Lv) (r1 : Rl w b1 d1 m1) (r2 : Rl w b2 d2 m2) (hno : (lok 1 m1 && lok 2 m2) = false) :
    Calls Try.prog 37 #[.pointer (some ⟨S, 0, none⟩), .agg #[.int .u64 ps, .slice b1 m1.length d1, .slice b2 m2.length d2]] w fun e w' => e = .returned (.int .i64 1) ∧ Below w.heap.size w w' := by
  obtain ⟨n1, hn1⟩ : ∃ n, m1.length = n := ⟨_, rfl⟩
  obtain ⟨n2, hn2⟩ : ∃ n, m2.length = n := ⟨_, rfl⟩
  obtain ⟨R, hR⟩ : ∃ R, w.heap.size = R := ⟨_, rfl⟩
  obtain ⟨W, hW⟩ : ∃ W, w.alloc (.cells #[.int .u64 ps, .slice b1 n1 d1, .slice b2 n2 d2] 30) = W := ⟨_, rfl⟩
  have hb0 : Below w.heap.size w W := by rw [← hW]; exact ball _ _
  have HD := hid (show W.heap[R]? = some (.cells #[.int .u64 ps, .slice b1 n1 d1, .slice b2 n2 d2] 30 (0, 0)) from by rw [← hW, ← hR]; exact World.alloc_heap_new _ _)
  have CB := hid (canBeLevels_any b1 b2 d1 d2 m1 m2 W (r1.on hb0) (r2.on hb0))
  rw [hno, hn1, hn2] at CB
  rw [hn1, hn2]
  have HB := hid hb0
  have HW := hid hW
  have HR := hid hR
  have j1 := row_cell HD.out 1
  have j2 := row_cell HD.out 2
  clear h r1 r2 hno hn1 hn2 hb0 hW hR
  go_enter Try.func37, Try.ntmps37
  go_upto_region 1 with fail
  rw [HW.out, HR.out]
  go_wp2_with (go_at_call 27; with_reducible refine (CB.out).mono ?_; rintro e V1 ⟨rfl, hb⟩; have BV1 := hid hb; clear hb)
  go_ret
  exact ⟨rfl, btr HB.out BV1.out⟩
theorem recover_old {w : World} {S M nm : Nat} {sq hold gr : Int} {p1 : Option Addr} {c1 : Nat} {l1 : List Lv} {p2 : Option Addr} {c2 : Nat} {l2 : List Lv} {L : List Dm} {la : Dm} (h : Sb w S M nm sq hold gr p1 c1 l1 p2 c2 l2 L la) (ps : Int) (b1 b2 : Option Addr) (d1 d2 : Nat) (m1 m2 : List Lv) (r1 : Rl w b1 d1 m1) (r2 : Rl w b2 d2 m2) (hyes : (lok 1 m1 && lok 2 m2) = true) (hlt : ps < sq) :
    Calls Try.prog 37 #[.pointer (some ⟨S, 0, none⟩), .agg #[.int .u64 ps, .slice b1 m1.length d1, .slice b2 m2.length d2]] w fun e w' => e = .returned (.int .i64 180) ∧ Below w.heap.size w w' := by
  obtain ⟨n1, hn1⟩ : ∃ n, m1.length = n := ⟨_, rfl⟩
  obtain ⟨n2, hn2⟩ : ∃ n, m2.length = n := ⟨_, rfl⟩
  obtain ⟨R, hR⟩ : ∃ R, w.heap.size = R := ⟨_, rfl⟩
  obtain ⟨W, hW⟩ : ∃ W, w.alloc (.cells #[.int .u64 ps, .slice b1 n1 d1, .slice b2 n2 d2] 30) = W := ⟨_, rfl⟩
  have hb0 : Below w.heap.size w W := by rw [← hW]; exact ball _ _
  have HD := hid (show W.heap[R]? = some (.cells #[.int .u64 ps, .slice b1 n1 d1, .slice b2 n2 d2] 30 (0, 0)) from by rw [← hW, ← hR]; exact World.alloc_heap_new _ _)
  have CB := hid (canBeLevels_any b1 b2 d1 d2 m1 m2 W (r1.on hb0) (r2.on hb0))
  rw [hyes, hn1, hn2] at CB
  rw [hn1, hn2]
  have HS := hid (h.on hb0)
  have HB := hid hb0
  have HW := hid hW
  have HR := hid hR
  have j1 := row_cell HD.out 1
  have j2 := row_cell HD.out 2
  have g1 : decide (ps < sq) = true := by simpa using hlt
  clear h r1 r2 hyes hn1 hn2 hb0 hW hR
  go_enter Try.func37, Try.ntmps37
  go_upto_region 1 with fail
  rw [HW.out, HR.out]
  go_upto_region 3 with (go_at_call 27; with_reducible refine (CB.out).mono ?_; rintro e V1 ⟨rfl, hb⟩; have BV1 := hid hb; clear hb)
  clear j1 j2
  have j0 := row_cell (row_on HD.out BV1.out) 0
  have k0 := row_cell (HS.out.on BV1.out).row 0
  go_quiet (fail)
  go_wp2
  go_ret
  exact ⟨rfl, btr HB.out (btr BV1.out (bdrew _ _))⟩
theorem recover_ok {w : World} {S M nm : Nat} {sq gr : Int} {hold : Nat} {p1 : Option Addr} {c1 : Nat} {l1 : List Lv} {p2 : Option Addr} {c2 : Nat} {l2 : List Lv} {L : List Dm} {la : Dm} (h : Sb w S M nm sq hold gr p1 c1 l1 p2 c2 l2 L la) (hg : Sg hold ⟨sq, gr, l1, l2, L, la⟩) (ps : Int) (hps : 0 ≤ ps ∧ ps < 18446744073709551616) (b1 b2 : Option Addr) (d1 d2 : Nat) (m1 m2 : List Lv) (r1 : Rl w b1 d1 m1) (r2 : Rl w b2 d2 m2) (hy1 : lok 1 m1 = true) (hy2 : lok 2 m2 = true) (hge : ¬ ps < sq) :
    Calls Try.prog 37 #[.pointer (some ⟨S, 0, none⟩), .agg #[.int .u64 ps, .slice b1 m1.length d1, .slice b2 m2.length d2]] w fun e w' => e = .returned (.int .i64 0) ∧ Bhd w S M nm hold (goS ⟨ps, gr, m1, m2, L.filter (fun d => decide (ps < d.sq)), la⟩) p1 p2 w' := by
  obtain ⟨n1, hn1⟩ : ∃ n, m1.length = n := ⟨_, rfl⟩
  obtain ⟨n2, hn2⟩ : ∃ n, m2.length = n := ⟨_, rfl⟩
  obtain ⟨R, hR⟩ : ∃ R, w.heap.size = R := ⟨_, rfl⟩
  obtain ⟨W, hW⟩ : ∃ W, w.alloc (.cells #[.int .u64 ps, .slice b1 n1 d1, .slice b2 n2 d2] 30) = W := ⟨_, rfl⟩
  have hb0 : Below w.heap.size w W := by rw [← hW]; exact ball _ _
  have HD := hid (show W.heap[R]? = some (.cells #[.int .u64 ps, .slice b1 n1 d1, .slice b2 n2 d2] 30 (0, 0)) from by rw [← hW, ← hR]; exact World.alloc_heap_new _ _)
  have hk1 := (lok_iff _ _).1 hy1
  have hk2 := (lok_iff _ _).1 hy2
  have CB := hid (canBeLevels_any b1 b2 d1 d2 m1 m2 W (r1.on hb0) (r2.on hb0))
  have CC := hid (fun (U : World) (hU : Below W.heap.size W U) => copied_any ps b1 b2 d1 d2 m1 m2 U ((r1.on hb0).on hU) ((r2.on hb0).on hU) (by have := hk1.len; omega) (by have := hk2.len; omega))
  rw [hy1, hy2, hn1, hn2] at CB
  rw [hn1, hn2] at CC
  have HPG := hid (hg.pic hps hy1 hy2)
  have HG := hid hg
  dsimp only at HPG
  have HS := hid (h.on hb0)
  have HK1 := hid hk1
  have HK2 := hid hk2
  have HN1 := hid hn1
  have HN2 := hid hn2
  obtain ⟨T, hT⟩ : ∃ T, goS ⟨ps, gr, m1, m2, L.filter (fun d => decide (ps < d.sq)), la⟩ = T := ⟨_, rfl⟩
  rw [hT]
  have HT := hid hT
  rw [hn1, hn2]
  have HB := hid hb0
  have HW := hid hW
  have HR := hid hR
  have j1 := row_cell HD.out 1
  have j2 := row_cell HD.out 2
  have g1 : decide (ps < sq) = false := by simpa using hge
  clear h r1 r2 hy1 hy2 hn1 hn2 hb0 hW hR hg hT hk1 hk2
  go_enter Try.func37, Try.ntmps37
  go_upto_region 1 with fail
  rw [HW.out, HR.out]
  go_upto_region 3 with (go_at_call 27; with_reducible refine (CB.out).mono ?_; rintro e V1 ⟨rfl, hb⟩; have BV1 := hid hb; clear hb)
  clear j1 j2
  have j0 := row_cell (row_on HD.out BV1.out) 0
  have k0 := row_cell (HS.out.on BV1.out).row 0
  go_quiet (fail)
  go_upto_region 5 with fail
  obtain ⟨V2, hV2⟩ : ∃ V2, V1.drewN nq = V2 := ⟨_, rfl⟩
  have BV2 := hid (show Below W.heap.size W V2 from by rw [← hV2]; exact btr BV1.out (bdrew _ _))
  rw [hV2]
  clear hV2 j0 k0 g1
  have j0 := row_cell (row_on HD.out BV2.out) 0
  have j1 := row_cell (row_on HD.out BV2.out) 1
  have j2 := row_cell (row_on HD.out BV2.out) 2
  have C2 := hid (CC.out V2 BV2.out)
  go_upto_region 6 with (first | (go_at_call 34; with_reducible refine (C2.out).mono ?_; rintro e V3 ⟨q1, e1, q2, e2, rfl, h1, h2, h3, h4⟩; have Q1 := hid h1; have Q2 := hid h2; have Q3 := hid h3; have BV3 := hid (btr BV2.out h4); have HS3 := hid (HS.out.on BV3.out); have TH := hid (row_there HS3.out.row 0 3 (by simp)); clear h1 h2 h3 h4) | (refine wpList_store_mid (by rfl) 30 (.tmp 26) (.tmp 24) (by rfl) S 0 #[.int .u64 ps, .slice q1 n1 e1, .slice q2 n2 e2] (by rfl) (by rfl) TH.out infoP3 (by simp [Value.oneCell']) ?_))
  obtain ⟨V4, hV4⟩ : ∃ V, V3.setCells S 0 #[.int .u64 ps, .slice q1 n1 e1, .slice q2 n2 e2].toList = V := ⟨_, rfl⟩
  have hV4' : ((V3.setCell ⟨S, 0, none⟩ (.int .u64 ps)).setCell ⟨S, 1, none⟩ (.slice q1 n1 e1)).setCell ⟨S, 2, none⟩ (.slice q2 n2 e2) = V4 := hV4
  have K4 := hid (show Kp (fun g => g = S) V3 V4 from by rw [← hV4']; exact ((Kp.set _ _ _ _).trans (Kp.set _ _ _ _) (fun _ _ h => h)).trans (Kp.set _ _ _ _) (fun _ _ h => h))
  have HS4 := hid (show Sb V4 S M nm ps hold gr q1 e1 m1 q2 e2 m2 L la from by
    have hs := HS3.out
    have ns : ∀ g, (∃ cu, V3.heap[g]? = some (.cells cu 89 (0, 0))) → ¬ g = S := fun g hg e => by obtain ⟨cu, hc⟩ := hg; exact row_ne hc hs.row (by decide) e
    refine ⟨?_, (Q1.out.kept K4.out (fun g hg => ns g (Q1.out.ty hg))).base (Nat.zero_le _), (Q2.out.kept K4.out (fun g hg => ns g (Q2.out.ty hg))).base (Nat.zero_le _), HK1.out, HK2.out, hs.hm.kept K4.out (fun e => map_ne hs.hm hs.row e), hps, hs.gr⟩
    rw [← hV4', HN1.out, HN2.out]
    exact set_row _ (set_row _ (set_row _ hs.row)))
  have KW4 := hid (show Kp (fun g => g = S) w V4 from (Kp.of _ (btr HB.out BV3.out)).trans K4.out (fun _ _ h => h))
  have HD4 := hid (K4.out.row (row_on HD.out BV3.out) (fun e => row_ne (row_on HD.out BV3.out) HS3.out.row (by decide) e))
  have HQL := hid (show (∀ g, OfP q1 g → w.heap.size ≤ g) ∧ (∀ g, OfP q2 g → w.heap.size ≤ g) from ⟨fun g hg => Nat.le_trans (btr HB.out BV2.out).size (Q1.out.ge hg).1, fun g hg => Nat.le_trans (btr HB.out BV2.out).size (Q2.out.ge hg).1⟩)
  try rw [hV4]
  clear hV4 hV4' j0 j1 j2
  have k4 := row_cell HS4.out.row 4
  obtain ⟨V5, cnt, hrun, hr, hb⟩ := HS4.out.hm.range
  obtain ⟨r, hre⟩ : ∃ r, V4.heap.size = r := ⟨_, rfl⟩
  rw [hre] at hrun hr
  have HR0 := hid hr
  have HB5 := hid hb
  have HRE := hid hre
  have HLTS := hid (show S < r ∧ M < r ∧ R < r ∧ (∀ g, OfP q1 g → g < r) ∧ (∀ g, OfP q2 g → g < r) from by
    rw [← hre]
    exact ⟨row_lt HS4.out.row, HS4.out.hm.lt, row_lt HD4.out, fun g hg => by obtain ⟨cu, hc⟩ := HS4.out.o1.ty hg; exact row_lt hc, fun g hg => by obtain ⟨cu, hc⟩ := HS4.out.o2.ty hg; exact row_lt hc⟩)
  clear hr hb hre
  go_wp2
  try go_frame
  go_loopg [] (cnt) (fun k wr => ∃ (lf : Int → Bool), Hid (Hr wr M r nm (cf ps lf L) lf k) ∧ Hid (Sb wr S M nm ps hold gr q1 e1 m1 q2 e2 m2 (cf ps lf L) la) ∧ Hid (Kp (fun g => g = S ∨ g = M) w wr) ∧ Hid (wr.heap[R]? = some (.cells #[.int .u64 ps, .slice b1 n1 d1, .slice b2 n2 d2] 30 (0, 0))) ∧ Hid (r < wr.heap.size))
  case atStart =>
    refine ⟨hasN L, ?_, ?_, ?_, row_on HD4.out HB5.out, ?_⟩
    · rw [cf_all]; exact HR0.out
    · rw [cf_all]; exact HS4.out.on HB5.out
    · exact (KW4.out.mono (fun _ _ h => .inl h)).trans (Kp.of (fun _ => False) HB5.out) (fun _ _ h => h.elim)
    · obtain ⟨D, left, ⟨es, clock, since, seen, c0, a1, a2, a3, a4, a5, a6⟩, h2⟩ := HR0.out
      exact row_lt a5
  case round =>
    obtain ⟨lf, HRR, HSW, HKW, HDW, HRL⟩ := hrel
    clear hrun k4
    rcases HRR.out.next with ⟨h0, hdone⟩ | ⟨d, wn, cn, hdm, hlf, hnext, hentry, hmr, hlt, hko⟩
    · have E := hid (cf_end (ps := ps) (L := L) h0)
      have CU := hid (catch_any (s := ⟨ps, gr, m1, m2, cf ps lf L, la⟩) ⟨HSW.out, Q3.out⟩ (by rw [E.out]; exact HPG.out))
      rw [E.out, HT.out] at CU
      clear h0
      go_wp2_with (go_at_call 60; with_reducible refine (CU.out).mono ?_; rintro e V6 ⟨rfl, h1⟩; have G1 := hid h1; clear h1)
      go_ret
      refine ⟨rfl, ?_⟩
      obtain ⟨s1, g1, s2, g2, x1, x2, x3, x4⟩ := G1.out
      have z1 := HKW.out.size
      refine ⟨s1, g1, s2, g2, x1, ?_, ?_, ?_⟩
      · refine (HKW.out.mono (fun _ _ h => h.elim .inl (fun h => .inr (.inl h)))).trans x2 (fun g hg h => ?_)
        rcases h with h | h | h | h
        · exact .inl h
        · exact .inr (.inl h)
        · have := HQL.out.1 g h; omega
        · have := HQL.out.2 g h; omega
      · intro g hg
        rcases x3 g hg with h | h
        · exact .inr (HQL.out.1 g h)
        · exact .inr (by omega)
      · intro g hg
        rcases x4 g hg with h | h
        · exact .inr (HQL.out.2 g h)
        · exact .inr (by omega)
    · have hd := HG.out.hl d (List.mem_filter.1 hdm).1
      dsimp only at hd
      have HDR := hid (show 0 ≤ d.sq ∧ d.sq < 18446744073709551616 from ⟨hd.2.1, hd.2.2.1⟩)
      have HMR := hid hmr
      have HKO := hid hko
      have HLT := hid hlt
      have HS1 := hid (show Sb wn S M nm ps hold gr q1 e1 m1 q2 e2 m2 (cf ps lf L) la from HSW.out.kept hko (fun e => by have := HLTS.out.1; omega) (fun e => by have := HLTS.out.2.1; omega) (fun g hg e => by have := HLTS.out.2.2.2.1 g hg; omega) (fun g hg e => by have := HLTS.out.2.2.2.2 g hg; omega))
      have HD1 := hid (show wn.heap[R]? = some (.cells #[.int .u64 ps, .slice b1 n1 d1, .slice b2 n2 d2] 30 (0, 0)) from hko.row HDW.out (fun e => by have := HLTS.out.2.2.1; omega))
      have HKW1 := hid (show Kp (fun g => g = S ∨ g = M) w wn from HKW.out.trans hko (fun g hg e => by have := HRE.out; have := KW4.out.size; omega))
      clear hd hdm hlf hmr hko hlt
      have j0 := row_cell HD1.out 0
      by_cases hle : ps < d.sq
      · have g1 : decide (d.sq ≤ ps) = false := by simp; omega
        have HLE := hid hle
        clear hle
        go_wp2
        go_roundg cn
        case measure => exact HLT.out
        case rel => exact ⟨fun k => lf k && !(k == d.sq), by rw [cf_keep HLE.out]; exact HMR.out, by rw [cf_keep HLE.out]; exact HS1.out, HKW1.out, HD1.out, Nat.lt_of_lt_of_le HRL.out HKO.out.size⟩
      · have g1 : decide (d.sq ≤ ps) = true := by simp; omega
        have HLE := hid hle
        obtain ⟨wd, cd, hdrun, hdr, hdle, hdk⟩ := HMR.out.del (HG.out.nd.filter _) d.sq HDR.out 0
        have HDK := hid hdk
        have HDR2 := hid hdr
        have HDL := hid hdle
        have k4 := row_cell HS1.out.row 4
        clear hle hdr hdle hdk
        go_wp2
        go_roundg cd
        case measure => exact Nat.lt_of_le_of_lt HDL.out HLT.out
        case rel =>
          have hs := HS1.out
          have hh := HDR2.out
          rw [show (fun j => (lf j && !(j == d.sq)) && !(j == d.sq)) = (fun k => lf k && !(k == d.sq)) from by funext j; cases lf j <;> cases (j == d.sq) <;> rfl, ← cf_drop (show ¬ ps < d.sq from by have := HLE.out; omega)] at hh
          refine ⟨_, hh, ⟨HDK.out.row hs.row (fun e => map_ne hs.hm hs.row e.symm), hs.o1.kept HDK.out (fun g hg e => by obtain ⟨cu, hc⟩ := hs.o1.ty hg; exact map_ne hs.hm hc e.symm), hs.o2.kept HDK.out (fun g hg e => by obtain ⟨cu, hc⟩ := hs.o2.ty hg; exact map_ne hs.hm hc e.symm), hs.k1, hs.k2, hh.hm, hs.sq, hs.gr⟩, HKW1.out.trans HDK.out (fun _ _ h => .inr h), HDK.out.row HD1.out (fun e => map_ne hs.hm HD1.out e.symm), ?_⟩
          exact Nat.lt_of_lt_of_le HRL.out (Nat.le_trans HKO.out.size HDK.out.size)
theorem recover_any {w : World} {S M nm hold : Nat} {s : Ss} {p1 p2 : Option Addr} {c1 c2 : Nat} (h : Su w S M nm hold s p1 c1 p2 c2) (hg : Sg hold s) (ps : Int) (hps : 0 ≤ ps ∧ ps < 18446744073709551616) (b1 b2 : Option Addr) (d1 d2 : Nat) (m1 m2 : List Lv) (r1 : Rl w b1 d1 m1) (r2 : Rl w b2 d2 m2) :
    Calls Try.prog 37 #[.pointer (some ⟨S, 0, none⟩), .agg #[.int .u64 ps, .slice b1 m1.length d1, .slice b2 m2.length d2]] w fun e w' => e = .returned (.int .i64 (rcE s ps m1 m2)) ∧ Bhd w S M nm hold (rcS s ps m1 m2) p1 p2 w' := by
  obtain ⟨sq, gr, l1, l2, L, la⟩ := s
  have hsb := h.sb
  dsimp only at hsb
  cases hno : (lok 1 m1 && lok 2 m2) with
  | false =>
    have e1 : rcE ⟨sq, gr, l1, l2, L, la⟩ ps m1 m2 = 1 := by unfold rcE; rw [if_pos hno]
    have e2 : rcS ⟨sq, gr, l1, l2, L, la⟩ ps m1 m2 = ⟨sq, gr, l1, l2, L, la⟩ := by unfold rcS; rw [if_pos hno]
    rw [e1, e2]
    refine (recover_no hsb ps b1 b2 d1 d2 m1 m2 r1 r2 hno).mono ?_
    rintro e w' ⟨rfl, hb⟩
    exact ⟨rfl, Bhd.same h hb⟩
  | true =>
    have hno' : ¬ (lok 1 m1 && lok 2 m2) = false := by simp [hno]
    by_cases hlt : ps < sq
    · have e1 : rcE ⟨sq, gr, l1, l2, L, la⟩ ps m1 m2 = 180 := by unfold rcE; rw [if_neg hno', if_pos hlt]
      have e2 : rcS ⟨sq, gr, l1, l2, L, la⟩ ps m1 m2 = ⟨sq, gr, l1, l2, L, la⟩ := by unfold rcS; rw [if_neg hno', if_pos hlt]
      rw [e1, e2]
      refine (recover_old hsb ps b1 b2 d1 d2 m1 m2 r1 r2 hno hlt).mono ?_
      rintro e w' ⟨rfl, hb⟩
      exact ⟨rfl, Bhd.same h hb⟩
    · have e1 : rcE ⟨sq, gr, l1, l2, L, la⟩ ps m1 m2 = 0 := by unfold rcE; rw [if_neg hno', if_neg hlt]
      have e2 : rcS ⟨sq, gr, l1, l2, L, la⟩ ps m1 m2 = goS ⟨ps, gr, m1, m2, L.filter (fun d => decide (ps < d.sq)), la⟩ := by unfold rcS; rw [if_neg hno', if_neg hlt]
      rw [e1, e2]
      rw [Bool.and_eq_true] at hno
      exact recover_ok hsb hg ps hps b1 b2 d1 d2 m1 m2 r1 r2 hno.1 hno.2 hlt
end Go.Proofs.Ytiphgfghdbmlcaa
