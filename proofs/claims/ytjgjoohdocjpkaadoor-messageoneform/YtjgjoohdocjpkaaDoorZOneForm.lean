/-
  OneForm.
-/
import Derived.Test.YtjgjoohdocjpkaaDoorZi
namespace Go.Proofs.YtjgjoohdocjpkaaDoor.Msg
open Go.RowKit Go.Maps Go.Deep Go.Lib
set_option linter.unusedVariables false
set_option linter.unusedSimpArgs false
theorem conv_drew {w : World} {q : Option Addr} {l : List UInt8} (h : Sb w q l) (c n : Nat) (hn : l.length = n) : ∀ m, (convert 31 9 (.slice q n c)).run Tryd.prog (w.drewN m) = .ok (.string ⟨l.toArray⟩) (w.drewN m) := fun m => by
  subst hn
  exact conv_any (w := w.drewN m) (fun i hi => h i hi) c
set_option maxHeartbeats 40000000 in
set_option maxRecDepth 100000 in
theorem oneform_walk (k a0 a1 a2 a3 a4 a5 a6 : Int) (hk : 0 ≤ k ∧ k < 256) (ha : ∀ x ∈ [a0, a1, a2, a3, a4, a5, a6], Wd x) (z : List UInt8) (qz : Option Addr) (cz : Nat) (w : World) (hSg : Sg w qz cz z) (hz1 : z.length ≤ cz) (hz2 : cz < 9223372036854775808) (hzl : z.length ≤ 140737488351232) (hM : LayM w) :
    Calls Tryd.prog 5 #[.agg (frV k [a0, a1, a2, a3, a4, a5, a6]), .slice qz z.length cz] w fun e w' => e = .returned (.bool true) ∧ Below w.heap.size w w' := by
  have HM := hid hM
  have SZ0 := hid (hSg.1.on (ball w (.cells (frV k [a0, a1, a2, a3, a4, a5, a6]) 40)))
  have LV := hid (fun w hM => lives_any w hM)
  have UP := hid (fun w => unpack_any k a0 a1 a2 a3 a4 a5 a6 hk.1 hk.2 ha w)
  have UQ := hid (fun w => unpackE_any k a0 a1 a2 a3 a4 a5 a6 hk.1 hk.2 ha w)
  have RL := hid (fun w hS hM => readI_any z qz cz w (by omega) hz1 hz2 hS hM)
  have RE := hid (fun w hS hM => readE_any z qz cz w (by omega) hz1 hz2 hS hM)
  have UK := hid (fun h => up_kind (k := k) (l := [a0, a1, a2, a3, a4, a5, a6]) h)
  have UJ := hid (fun h => uq_kind (k := k) (l := [a0, a1, a2, a3, a4, a5, a6]) h)
  have HRO := hid (fun h => rl_ok (b := z) h)
  have HEO := hid (fun h => re_ok (b := z) h)
  have HNB := hid (fun h1 h2 => not_both (b := z) h1 h2)
  have okI := hid (rdI_ok k [a0, a1, a2, a3, a4, a5, a6])
  have okE := hid (rdE_ok k [a0, a1, a2, a3, a4, a5, a6])
  have q1 := eqFr_same k a0 a1 a2 a3 a4 a5 a6
  obtain ⟨Y, hY⟩ : ∃ y, upI k [a0, a1, a2, a3, a4, a5, a6] = y := ⟨_, rfl⟩
  obtain ⟨V, hV⟩ : ∃ y, uqI k [a0, a1, a2, a3, a4, a5, a6] = y := ⟨_, rfl⟩
  obtain ⟨E, hE⟩ : ∃ y, upE k [a0, a1, a2, a3, a4, a5, a6] = y := ⟨_, rfl⟩
  obtain ⟨G, hG⟩ : ∃ y, uqE k [a0, a1, a2, a3, a4, a5, a6] = y := ⟨_, rfl⟩
  rw [hY, hE] at UP
  rw [hV, hG] at UQ
  rw [hE, hY] at UK
  rw [hG, hV] at UJ
  obtain ⟨J, n, d, hR⟩ : ∃ a b c, rlR z = (a, b, c) := ⟨_, _, _, rfl⟩
  obtain ⟨U, m, h, hS⟩ : ∃ a b c, reR z = (a, b, c) := ⟨_, _, _, rfl⟩
  rw [hR] at RL HRO HNB
  rw [hS] at RE HEO HNB
  simp only at RL HRO HNB RE HEO
  have RF0 := hid (heap_alloc_new w (.cells (frV k [a0, a1, a2, a3, a4, a5, a6]) 40))
  have HB0 := hid (ball w (.cells (frV k [a0, a1, a2, a3, a4, a5, a6]) 40))
  have hfa : frV k [a0, a1, a2, a3, a4, a5, a6] = #[.int .u8 k, .int .u64 a0, .int .u64 a1, .int .u64 a2, .int .u64 a3, .int .u64 a4, .int .u64 a5, .int .u64 a6] := rfl
  rw [hfa] at RF0 HB0 SZ0 UP UQ
  rw [hfa]
  clear hfa hM hSg hY hV hE hG hR hS
  unfold Inp.v iV at UP RL
  unfold Evt.v eV at UQ RE
  go_enter Tryd.func5, Tryd.ntmps5
  go_wp2_with (first | (go_at_call 13; refine (LV.out _ (HM.out.on HB0.out)).mono ?_; rintro e w1 ⟨rfl, hb⟩; have RF_1 := hid (row_on RF0.out hb); have SZ_1 := hid (SZ0.out.on hb); have HB_1 := hid (btr HB0.out hb); clear hb; refine Hid.out ?_))
  clear RF0 SZ0 HB0
  obtain ⟨f1_0, f1_1, f1_2, f1_3, f1_4, f1_5, f1_6, f1_7⟩ := cells_F (k := k) (a0 := a0) (a1 := a1) (a2 := a2) (a3 := a3) (a4 := a4) (a5 := a5) (a6 := a6) RF_1.out
  refine hid ?_
  go_wp2_with (first | (go_at_call 16; refine (UP.out _).mono ?_; rintro e w2 ⟨rfl, hb⟩; have RF_2 := hid (row_on RF_1.out hb); have SZ_2 := hid (SZ_1.out.on hb); have HB_2 := hid (btr HB_1.out hb); clear hb; refine Hid.out ?_))
  clear RF_1 SZ_1 HB_1
  clear f1_0 f1_1 f1_2 f1_3 f1_4 f1_5 f1_6 f1_7
  have RF_2a := hid (row_on RF_2.out (ball w2 (.cells (#[.int .i64 Y.ki, .int .i64 Y.co, .int .u64 Y.id, .int .u64 Y.tg, .int .u32 Y.me, .int .i64 Y.si, .int .i64 Y.ty, .int .i64 Y.pr, .int .u64 Y.qt, .int .u64 Y.pe, .int .i64 Y.en]) 27)))
  have SZ_2a := hid (SZ_2.out.on (ball w2 (.cells (#[.int .i64 Y.ki, .int .i64 Y.co, .int .u64 Y.id, .int .u64 Y.tg, .int .u32 Y.me, .int .i64 Y.si, .int .i64 Y.ty, .int .i64 Y.pr, .int .u64 Y.qt, .int .u64 Y.pe, .int .i64 Y.en]) 27)))
  have RA_2a := hid (heap_alloc_new w2 (.cells (#[.int .i64 Y.ki, .int .i64 Y.co, .int .u64 Y.id, .int .u64 Y.tg, .int .u32 Y.me, .int .i64 Y.si, .int .i64 Y.ty, .int .i64 Y.pr, .int .u64 Y.qt, .int .u64 Y.pe, .int .i64 Y.en]) 27))
  have HB_2a := hid (btr HB_2.out (ball w2 (.cells (#[.int .i64 Y.ki, .int .i64 Y.co, .int .u64 Y.id, .int .u64 Y.tg, .int .u32 Y.me, .int .i64 Y.si, .int .i64 Y.ty, .int .i64 Y.pr, .int .u64 Y.qt, .int .u64 Y.pe, .int .i64 Y.en]) 27)))
  clear RF_2 SZ_2 HB_2
  obtain ⟨f2_0, f2_1, f2_2, f2_3, f2_4, f2_5, f2_6, f2_7⟩ := cells_F (k := k) (a0 := a0) (a1 := a1) (a2 := a2) (a3 := a3) (a4 := a4) (a5 := a5) (a6 := a6) RF_2a.out
  refine hid ?_
  go_wp2_with (first | (go_at_call 18; refine (UQ.out _).mono ?_; rintro e w3 ⟨rfl, hb⟩; have RF_3 := hid (row_on RF_2a.out hb); have RA_3 := hid (row_on RA_2a.out hb); have SZ_3 := hid (SZ_2a.out.on hb); have HB_3 := hid (btr HB_2a.out hb); clear hb; refine Hid.out ?_))
  clear RF_2a RA_2a SZ_2a HB_2a
  clear f2_0 f2_1 f2_2 f2_3 f2_4 f2_5 f2_6 f2_7
  have RF_3a := hid (row_on RF_3.out (ball w3 (.cells (#[.int .u64 V.sq, .int .i64 V.kd, .int .u64 V.id, .int .u64 V.ot, .int .u64 V.tg, .int .u32 V.me, .int .i64 V.si, .int .i64 V.ty, .int .i64 V.pr, .int .u64 V.qt, .int .u64 V.pe, .int .i64 V.re, .int .i64 V.co]) 30)))
  have RA_3a := hid (row_on RA_3.out (ball w3 (.cells (#[.int .u64 V.sq, .int .i64 V.kd, .int .u64 V.id, .int .u64 V.ot, .int .u64 V.tg, .int .u32 V.me, .int .i64 V.si, .int .i64 V.ty, .int .i64 V.pr, .int .u64 V.qt, .int .u64 V.pe, .int .i64 V.re, .int .i64 V.co]) 30)))
  have SZ_3a := hid (SZ_3.out.on (ball w3 (.cells (#[.int .u64 V.sq, .int .i64 V.kd, .int .u64 V.id, .int .u64 V.ot, .int .u64 V.tg, .int .u32 V.me, .int .i64 V.si, .int .i64 V.ty, .int .i64 V.pr, .int .u64 V.qt, .int .u64 V.pe, .int .i64 V.re, .int .i64 V.co]) 30)))
  have RB_3a := hid (heap_alloc_new w3 (.cells (#[.int .u64 V.sq, .int .i64 V.kd, .int .u64 V.id, .int .u64 V.ot, .int .u64 V.tg, .int .u32 V.me, .int .i64 V.si, .int .i64 V.ty, .int .i64 V.pr, .int .u64 V.qt, .int .u64 V.pe, .int .i64 V.re, .int .i64 V.co]) 30))
  have HB_3a := hid (btr HB_3.out (ball w3 (.cells (#[.int .u64 V.sq, .int .i64 V.kd, .int .u64 V.id, .int .u64 V.ot, .int .u64 V.tg, .int .u32 V.me, .int .i64 V.si, .int .i64 V.ty, .int .i64 V.pr, .int .u64 V.qt, .int .u64 V.pe, .int .i64 V.re, .int .i64 V.co]) 30)))
  clear RF_3 RA_3 SZ_3 HB_3
  clear UP UQ LV
  by_cases e0 : E = 0
  · subst e0
    obtain ⟨k1, k4, ye, yk, yw, yr⟩ := UK.out rfl
    rw [← yr] at ye yk yw okI
    have g0f : (G == 0) = false := by
      simp
      intro e
      have := UJ.out e
      omega
    have PK := hid (fun w => pack_any Y okI.out w)
    rw [ye, yk, yw] at PK
    have hfb : frV k [a0, a1, a2, a3, a4, a5, a6] = #[.int .u8 k, .int .u64 a0, .int .u64 a1, .int .u64 a2, .int .u64 a3, .int .u64 a4, .int .u64 a5, .int .u64 a6] := rfl
    rw [hfb] at PK
    unfold Inp.v iV at PK
    clear hfb UK UJ okI okE ye yk yw yr k1 k4
    obtain ⟨i3_0, i3_1, i3_2, i3_3, i3_4, i3_5, i3_6, i3_7, i3_8, i3_9, i3_10⟩ := cells_I RA_3a.out
    refine hid ?_
    go_wp2_with (first | (go_at_call 14; refine (PK.out _).mono ?_; rintro e w4 ⟨rfl, hb⟩; have RF_4 := hid (row_on RF_3a.out hb); have RA_4 := hid (row_on RA_3a.out hb); have RB_4 := hid (row_on RB_3a.out hb); have SZ_4 := hid (SZ_3a.out.on hb); have HB_4 := hid (btr HB_3a.out hb); clear hb; refine Hid.out ?_))
    clear RF_3a RA_3a RB_3a SZ_3a HB_3a
    clear i3_0 i3_1 i3_2 i3_3 i3_4 i3_5 i3_6 i3_7 i3_8 i3_9 i3_10
    have RF_4a := hid (row_on RF_4.out (ball w4 (.cells (#[.int .u8 k, .int .u64 a0, .int .u64 a1, .int .u64 a2, .int .u64 a3, .int .u64 a4, .int .u64 a5, .int .u64 a6]) 40)))
    have RA_4a := hid (row_on RA_4.out (ball w4 (.cells (#[.int .u8 k, .int .u64 a0, .int .u64 a1, .int .u64 a2, .int .u64 a3, .int .u64 a4, .int .u64 a5, .int .u64 a6]) 40)))
    have RB_4a := hid (row_on RB_4.out (ball w4 (.cells (#[.int .u8 k, .int .u64 a0, .int .u64 a1, .int .u64 a2, .int .u64 a3, .int .u64 a4, .int .u64 a5, .int .u64 a6]) 40)))
    have SZ_4a := hid (SZ_4.out.on (ball w4 (.cells (#[.int .u8 k, .int .u64 a0, .int .u64 a1, .int .u64 a2, .int .u64 a3, .int .u64 a4, .int .u64 a5, .int .u64 a6]) 40)))
    have RC_4a := hid (heap_alloc_new w4 (.cells (#[.int .u8 k, .int .u64 a0, .int .u64 a1, .int .u64 a2, .int .u64 a3, .int .u64 a4, .int .u64 a5, .int .u64 a6]) 40))
    have HB_4a := hid (btr HB_4.out (ball w4 (.cells (#[.int .u8 k, .int .u64 a0, .int .u64 a1, .int .u64 a2, .int .u64 a3, .int .u64 a4, .int .u64 a5, .int .u64 a6]) 40)))
    clear RF_4 RA_4 RB_4 SZ_4 HB_4
    obtain ⟨f4_0, f4_1, f4_2, f4_3, f4_4, f4_5, f4_6, f4_7⟩ := cells_F (k := k) (a0 := a0) (a1 := a1) (a2 := a2) (a3 := a3) (a4 := a4) (a5 := a5) (a6 := a6) RC_4a.out
    obtain ⟨f5_0, f5_1, f5_2, f5_3, f5_4, f5_5, f5_6, f5_7⟩ := cells_F (k := k) (a0 := a0) (a1 := a1) (a2 := a2) (a3 := a3) (a4 := a4) (a5 := a5) (a6 := a6) RF_4a.out
    clear PK
    refine hid ?_
    go_wp2_with (first | (go_at_call 17; refine (RL.out _ SZ_4a.out (HM.out.on HB_4a.out)).mono ?_; rintro e w5 ⟨rfl, hb⟩; have RF_5 := hid (row_on RF_4a.out hb); have RA_5 := hid (row_on RA_4a.out hb); have RB_5 := hid (row_on RB_4a.out hb); have RC_5 := hid (row_on RC_4a.out hb); have SZ_5 := hid (SZ_4a.out.on hb); have HB_5 := hid (btr HB_4a.out hb); clear hb; refine Hid.out ?_))
    clear RF_4a RA_4a RB_4a RC_4a SZ_4a HB_4a
    clear f4_0 f4_1 f4_2 f4_3 f4_4 f4_5 f4_6 f4_7 f5_0 f5_1 f5_2 f5_3 f5_4 f5_5 f5_6 f5_7
    have RF_5a := hid (row_on RF_5.out (ball w5 (.cells (#[.int .i64 J.ki, .int .i64 J.co, .int .u64 J.id, .int .u64 J.tg, .int .u32 J.me, .int .i64 J.si, .int .i64 J.ty, .int .i64 J.pr, .int .u64 J.qt, .int .u64 J.pe, .int .i64 J.en]) 27)))
    have RA_5a := hid (row_on RA_5.out (ball w5 (.cells (#[.int .i64 J.ki, .int .i64 J.co, .int .u64 J.id, .int .u64 J.tg, .int .u32 J.me, .int .i64 J.si, .int .i64 J.ty, .int .i64 J.pr, .int .u64 J.qt, .int .u64 J.pe, .int .i64 J.en]) 27)))
    have RB_5a := hid (row_on RB_5.out (ball w5 (.cells (#[.int .i64 J.ki, .int .i64 J.co, .int .u64 J.id, .int .u64 J.tg, .int .u32 J.me, .int .i64 J.si, .int .i64 J.ty, .int .i64 J.pr, .int .u64 J.qt, .int .u64 J.pe, .int .i64 J.en]) 27)))
    have RC_5a := hid (row_on RC_5.out (ball w5 (.cells (#[.int .i64 J.ki, .int .i64 J.co, .int .u64 J.id, .int .u64 J.tg, .int .u32 J.me, .int .i64 J.si, .int .i64 J.ty, .int .i64 J.pr, .int .u64 J.qt, .int .u64 J.pe, .int .i64 J.en]) 27)))
    have SZ_5a := hid (SZ_5.out.on (ball w5 (.cells (#[.int .i64 J.ki, .int .i64 J.co, .int .u64 J.id, .int .u64 J.tg, .int .u32 J.me, .int .i64 J.si, .int .i64 J.ty, .int .i64 J.pr, .int .u64 J.qt, .int .u64 J.pe, .int .i64 J.en]) 27)))
    have RD_5a := hid (heap_alloc_new w5 (.cells (#[.int .i64 J.ki, .int .i64 J.co, .int .u64 J.id, .int .u64 J.tg, .int .u32 J.me, .int .i64 J.si, .int .i64 J.ty, .int .i64 J.pr, .int .u64 J.qt, .int .u64 J.pe, .int .i64 J.en]) 27))
    have HB_5a := hid (btr HB_5.out (ball w5 (.cells (#[.int .i64 J.ki, .int .i64 J.co, .int .u64 J.id, .int .u64 J.tg, .int .u32 J.me, .int .i64 J.si, .int .i64 J.ty, .int .i64 J.pr, .int .u64 J.qt, .int .u64 J.pe, .int .i64 J.en]) 27)))
    clear RF_5 RA_5 RB_5 RC_5 SZ_5 HB_5
    refine hid ?_
    go_wp2_with (first | (go_at_call 19; refine (RE.out _ SZ_5a.out (HM.out.on HB_5a.out)).mono ?_; rintro e w6 ⟨rfl, hb⟩; have RF_6 := hid (row_on RF_5a.out hb); have RA_6 := hid (row_on RA_5a.out hb); have RB_6 := hid (row_on RB_5a.out hb); have RC_6 := hid (row_on RC_5a.out hb); have RD_6 := hid (row_on RD_5a.out hb); have SZ_6 := hid (SZ_5a.out.on hb); have HB_6 := hid (btr HB_5a.out hb); clear hb; refine Hid.out ?_))
    clear RF_5a RA_5a RB_5a RC_5a RD_5a SZ_5a HB_5a
    have RF_6a := hid (row_on RF_6.out (ball w6 (.cells (#[.int .u64 U.sq, .int .i64 U.kd, .int .u64 U.id, .int .u64 U.ot, .int .u64 U.tg, .int .u32 U.me, .int .i64 U.si, .int .i64 U.ty, .int .i64 U.pr, .int .u64 U.qt, .int .u64 U.pe, .int .i64 U.re, .int .i64 U.co]) 30)))
    have RA_6a := hid (row_on RA_6.out (ball w6 (.cells (#[.int .u64 U.sq, .int .i64 U.kd, .int .u64 U.id, .int .u64 U.ot, .int .u64 U.tg, .int .u32 U.me, .int .i64 U.si, .int .i64 U.ty, .int .i64 U.pr, .int .u64 U.qt, .int .u64 U.pe, .int .i64 U.re, .int .i64 U.co]) 30)))
    have RB_6a := hid (row_on RB_6.out (ball w6 (.cells (#[.int .u64 U.sq, .int .i64 U.kd, .int .u64 U.id, .int .u64 U.ot, .int .u64 U.tg, .int .u32 U.me, .int .i64 U.si, .int .i64 U.ty, .int .i64 U.pr, .int .u64 U.qt, .int .u64 U.pe, .int .i64 U.re, .int .i64 U.co]) 30)))
    have RC_6a := hid (row_on RC_6.out (ball w6 (.cells (#[.int .u64 U.sq, .int .i64 U.kd, .int .u64 U.id, .int .u64 U.ot, .int .u64 U.tg, .int .u32 U.me, .int .i64 U.si, .int .i64 U.ty, .int .i64 U.pr, .int .u64 U.qt, .int .u64 U.pe, .int .i64 U.re, .int .i64 U.co]) 30)))
    have RD_6a := hid (row_on RD_6.out (ball w6 (.cells (#[.int .u64 U.sq, .int .i64 U.kd, .int .u64 U.id, .int .u64 U.ot, .int .u64 U.tg, .int .u32 U.me, .int .i64 U.si, .int .i64 U.ty, .int .i64 U.pr, .int .u64 U.qt, .int .u64 U.pe, .int .i64 U.re, .int .i64 U.co]) 30)))
    have SZ_6a := hid (SZ_6.out.on (ball w6 (.cells (#[.int .u64 U.sq, .int .i64 U.kd, .int .u64 U.id, .int .u64 U.ot, .int .u64 U.tg, .int .u32 U.me, .int .i64 U.si, .int .i64 U.ty, .int .i64 U.pr, .int .u64 U.qt, .int .u64 U.pe, .int .i64 U.re, .int .i64 U.co]) 30)))
    have RU_6a := hid (heap_alloc_new w6 (.cells (#[.int .u64 U.sq, .int .i64 U.kd, .int .u64 U.id, .int .u64 U.ot, .int .u64 U.tg, .int .u32 U.me, .int .i64 U.si, .int .i64 U.ty, .int .i64 U.pr, .int .u64 U.qt, .int .u64 U.pe, .int .i64 U.re, .int .i64 U.co]) 30))
    have HB_6a := hid (btr HB_6.out (ball w6 (.cells (#[.int .u64 U.sq, .int .i64 U.kd, .int .u64 U.id, .int .u64 U.ot, .int .u64 U.tg, .int .u32 U.me, .int .i64 U.si, .int .i64 U.ty, .int .i64 U.pr, .int .u64 U.qt, .int .u64 U.pe, .int .i64 U.re, .int .i64 U.co]) 30)))
    clear RF_6 RA_6 RB_6 RC_6 RD_6 SZ_6 HB_6
    clear RL RE
    by_cases d0 : d = 0
    · subst d0
      have h0f : (h == 0) = false := by
        simp
        intro e
        exact HNB.out rfl e
      obtain ⟨_, _, je, jl, n1, n2, jo⟩ := HRO.out rfl
      have LI := hid (fun w hL => lineI_any J jo w hL)
      rw [je, jl] at LI
      unfold Inp.v iV at LI
      obtain ⟨bq, oq, rfl, _⟩ := SZ_6a.out 0 (by omega)
      have htl : (z.take n).length = n := by simp; omega
      have g1 : ¬ ((n : Int) < 1) := by omega
      have g1d : decide ((n : Int) < 1) = false := by simpa using g1
      have g2 : ¬ ((z.length : Int) < (n : Int)) := by omega
      have g2d : decide ((z.length : Int) < (n : Int)) = false := by simpa using g2
      have g3 : (0 : Int) ≤ (n : Int) := by omega
      have g4 : (n : Int) ≤ (cz : Int) := by omega
      have STK := hid (SZ_6a.out.take n)
      clear HRO HEO HNB je jl jo
      obtain ⟨i6_0, i6_1, i6_2, i6_3, i6_4, i6_5, i6_6, i6_7, i6_8, i6_9, i6_10⟩ := cells_I RD_6a.out
      refine hid ?_
      go_wp2_with (first | (go_at_call 8; refine (LI.out _ (HM.out.on HB_6a.out).laye.lay).mono ?_; rintro e w7 ⟨v3, rfl, hO3, hn3⟩; have hb := hO3.2.1; have HO3 := hid hO3; clear hO3 hn3; have RF_7 := hid (row_on RF_6a.out hb); have RA_7 := hid (row_on RA_6a.out hb); have RB_7 := hid (row_on RB_6a.out hb); have RC_7 := hid (row_on RC_6a.out hb); have RD_7 := hid (row_on RD_6a.out hb); have RU_7 := hid (row_on RU_6a.out hb); have SZ_7 := hid (SZ_6a.out.on hb); have STK_7 := hid (STK.out.on hb); have HB_7 := hid (btr HB_6a.out hb); clear hb; refine Hid.out ?_))
      clear RF_6a RA_6a RB_6a RC_6a RD_6a RU_6a SZ_6a STK HB_6a
      clear i6_0 i6_1 i6_2 i6_3 i6_4 i6_5 i6_6 i6_7 i6_8 i6_9 i6_10
      obtain ⟨q3, c3, rfl, hS3, hc3, hm3⟩ := own_cap HO3.out
      have cv1 := conv_drew hS3 c3 _ rfl
      have cv2 := conv_drew STK_7.out cz n htl
      rw [htl] at cv1
      rw [htl]
      clear hS3 HO3 LI hc3 hm3 htl
      refine hid ?_
      go_wp2
      go_quiet (fail)
      go_wp2
      go_ret
      exact ⟨by simp, below_drewN HB_7.out _⟩
    · have d0f : (d == 0) = false := by simpa using d0
      by_cases h0 : h = 0
      · subst h0
        obtain ⟨_, _, je, jl, n1, n2, jo⟩ := HEO.out rfl
        have LI := hid (fun w hL => lineE_any U jo w hL)
        rw [je, jl] at LI
        unfold Evt.v eV at LI
        obtain ⟨bq, oq, rfl, _⟩ := SZ_6a.out 0 (by omega)
        have htl : (z.take m).length = m := by simp; omega
        have g1 : ¬ ((m : Int) < 1) := by omega
        have g1d : decide ((m : Int) < 1) = false := by simpa using g1
        have g2 : ¬ ((z.length : Int) < (m : Int)) := by omega
        have g2d : decide ((z.length : Int) < (m : Int)) = false := by simpa using g2
        have g3 : (0 : Int) ≤ (m : Int) := by omega
        have g4 : (m : Int) ≤ (cz : Int) := by omega
        have STK := hid (SZ_6a.out.take m)
        clear HRO HEO HNB je jl jo d0
        obtain ⟨e7_0, e7_1, e7_2, e7_3, e7_4, e7_5, e7_6, e7_7, e7_8, e7_9, e7_10, e7_11, e7_12⟩ := cells_E RU_6a.out
        refine hid ?_
        go_wp2_with (first | (go_at_call 10; refine (LI.out _ (HM.out.on HB_6a.out).laye.lay).mono ?_; rintro e w7 ⟨v3, rfl, hO3, hn3⟩; have hb := hO3.2.1; have HO3 := hid hO3; clear hO3 hn3; have RF_7 := hid (row_on RF_6a.out hb); have RA_7 := hid (row_on RA_6a.out hb); have RB_7 := hid (row_on RB_6a.out hb); have RC_7 := hid (row_on RC_6a.out hb); have RD_7 := hid (row_on RD_6a.out hb); have RU_7 := hid (row_on RU_6a.out hb); have SZ_7 := hid (SZ_6a.out.on hb); have STK_7 := hid (STK.out.on hb); have HB_7 := hid (btr HB_6a.out hb); clear hb; refine Hid.out ?_))
        clear RF_6a RA_6a RB_6a RC_6a RD_6a RU_6a SZ_6a STK HB_6a
        clear e7_0 e7_1 e7_2 e7_3 e7_4 e7_5 e7_6 e7_7 e7_8 e7_9 e7_10 e7_11 e7_12
        obtain ⟨q3, c3, rfl, hS3, hc3, hm3⟩ := own_cap HO3.out
        have cv1 := conv_drew hS3 c3 _ rfl
        have cv2 := conv_drew STK_7.out cz m htl
        rw [htl] at cv1
        rw [htl]
        clear hS3 HO3 LI hc3 hm3 htl
        refine hid ?_
        go_wp2
        go_quiet (fail)
        go_wp2
        go_ret
        exact ⟨by simp, below_drewN HB_7.out _⟩
      · have h0f : (h == 0) = false := by simpa using h0
        clear HRO HEO HNB d0 h0
        refine hid ?_
        go_wp2
        go_ret
        exact ⟨by simp, HB_6a.out⟩
  · have e0f : (E == 0) = false := by simpa using e0
    by_cases g0 : G = 0
    · subst g0
      obtain ⟨k1, k4, ye, yk, yw, yr⟩ := UJ.out rfl
      rw [← yr] at ye yk yw okE
      have PK := hid (fun w => packE_any V okE.out w)
      rw [ye, yk, yw] at PK
      have hfb : frV k [a0, a1, a2, a3, a4, a5, a6] = #[.int .u8 k, .int .u64 a0, .int .u64 a1, .int .u64 a2, .int .u64 a3, .int .u64 a4, .int .u64 a5, .int .u64 a6] := rfl
      rw [hfb] at PK
      unfold Evt.v eV at PK
      clear hfb UK UJ okI okE ye yk yw yr k1 k4 e0
      obtain ⟨e8_0, e8_1, e8_2, e8_3, e8_4, e8_5, e8_6, e8_7, e8_8, e8_9, e8_10, e8_11, e8_12⟩ := cells_E RB_3a.out
      refine hid ?_
      go_wp2_with (first | (go_at_call 15; refine (PK.out _).mono ?_; rintro e w4 ⟨rfl, hb⟩; have RF_4 := hid (row_on RF_3a.out hb); have RA_4 := hid (row_on RA_3a.out hb); have RB_4 := hid (row_on RB_3a.out hb); have SZ_4 := hid (SZ_3a.out.on hb); have HB_4 := hid (btr HB_3a.out hb); clear hb; refine Hid.out ?_))
      clear RF_3a RA_3a RB_3a SZ_3a HB_3a
      clear e8_0 e8_1 e8_2 e8_3 e8_4 e8_5 e8_6 e8_7 e8_8 e8_9 e8_10 e8_11 e8_12
      have RF_4a := hid (row_on RF_4.out (ball w4 (.cells (#[.int .u8 k, .int .u64 a0, .int .u64 a1, .int .u64 a2, .int .u64 a3, .int .u64 a4, .int .u64 a5, .int .u64 a6]) 40)))
      have RA_4a := hid (row_on RA_4.out (ball w4 (.cells (#[.int .u8 k, .int .u64 a0, .int .u64 a1, .int .u64 a2, .int .u64 a3, .int .u64 a4, .int .u64 a5, .int .u64 a6]) 40)))
      have RB_4a := hid (row_on RB_4.out (ball w4 (.cells (#[.int .u8 k, .int .u64 a0, .int .u64 a1, .int .u64 a2, .int .u64 a3, .int .u64 a4, .int .u64 a5, .int .u64 a6]) 40)))
      have SZ_4a := hid (SZ_4.out.on (ball w4 (.cells (#[.int .u8 k, .int .u64 a0, .int .u64 a1, .int .u64 a2, .int .u64 a3, .int .u64 a4, .int .u64 a5, .int .u64 a6]) 40)))
      have RC_4a := hid (heap_alloc_new w4 (.cells (#[.int .u8 k, .int .u64 a0, .int .u64 a1, .int .u64 a2, .int .u64 a3, .int .u64 a4, .int .u64 a5, .int .u64 a6]) 40))
      have HB_4a := hid (btr HB_4.out (ball w4 (.cells (#[.int .u8 k, .int .u64 a0, .int .u64 a1, .int .u64 a2, .int .u64 a3, .int .u64 a4, .int .u64 a5, .int .u64 a6]) 40)))
      clear RF_4 RA_4 RB_4 SZ_4 HB_4
      obtain ⟨f9_0, f9_1, f9_2, f9_3, f9_4, f9_5, f9_6, f9_7⟩ := cells_F (k := k) (a0 := a0) (a1 := a1) (a2 := a2) (a3 := a3) (a4 := a4) (a5 := a5) (a6 := a6) RC_4a.out
      obtain ⟨f10_0, f10_1, f10_2, f10_3, f10_4, f10_5, f10_6, f10_7⟩ := cells_F (k := k) (a0 := a0) (a1 := a1) (a2 := a2) (a3 := a3) (a4 := a4) (a5 := a5) (a6 := a6) RF_4a.out
      clear PK
      refine hid ?_
      go_wp2_with (first | (go_at_call 17; refine (RL.out _ SZ_4a.out (HM.out.on HB_4a.out)).mono ?_; rintro e w5 ⟨rfl, hb⟩; have RF_5 := hid (row_on RF_4a.out hb); have RA_5 := hid (row_on RA_4a.out hb); have RB_5 := hid (row_on RB_4a.out hb); have RC_5 := hid (row_on RC_4a.out hb); have SZ_5 := hid (SZ_4a.out.on hb); have HB_5 := hid (btr HB_4a.out hb); clear hb; refine Hid.out ?_))
      clear RF_4a RA_4a RB_4a RC_4a SZ_4a HB_4a
      clear f9_0 f9_1 f9_2 f9_3 f9_4 f9_5 f9_6 f9_7 f10_0 f10_1 f10_2 f10_3 f10_4 f10_5 f10_6 f10_7
      have RF_5a := hid (row_on RF_5.out (ball w5 (.cells (#[.int .i64 J.ki, .int .i64 J.co, .int .u64 J.id, .int .u64 J.tg, .int .u32 J.me, .int .i64 J.si, .int .i64 J.ty, .int .i64 J.pr, .int .u64 J.qt, .int .u64 J.pe, .int .i64 J.en]) 27)))
      have RA_5a := hid (row_on RA_5.out (ball w5 (.cells (#[.int .i64 J.ki, .int .i64 J.co, .int .u64 J.id, .int .u64 J.tg, .int .u32 J.me, .int .i64 J.si, .int .i64 J.ty, .int .i64 J.pr, .int .u64 J.qt, .int .u64 J.pe, .int .i64 J.en]) 27)))
      have RB_5a := hid (row_on RB_5.out (ball w5 (.cells (#[.int .i64 J.ki, .int .i64 J.co, .int .u64 J.id, .int .u64 J.tg, .int .u32 J.me, .int .i64 J.si, .int .i64 J.ty, .int .i64 J.pr, .int .u64 J.qt, .int .u64 J.pe, .int .i64 J.en]) 27)))
      have RC_5a := hid (row_on RC_5.out (ball w5 (.cells (#[.int .i64 J.ki, .int .i64 J.co, .int .u64 J.id, .int .u64 J.tg, .int .u32 J.me, .int .i64 J.si, .int .i64 J.ty, .int .i64 J.pr, .int .u64 J.qt, .int .u64 J.pe, .int .i64 J.en]) 27)))
      have SZ_5a := hid (SZ_5.out.on (ball w5 (.cells (#[.int .i64 J.ki, .int .i64 J.co, .int .u64 J.id, .int .u64 J.tg, .int .u32 J.me, .int .i64 J.si, .int .i64 J.ty, .int .i64 J.pr, .int .u64 J.qt, .int .u64 J.pe, .int .i64 J.en]) 27)))
      have RD_5a := hid (heap_alloc_new w5 (.cells (#[.int .i64 J.ki, .int .i64 J.co, .int .u64 J.id, .int .u64 J.tg, .int .u32 J.me, .int .i64 J.si, .int .i64 J.ty, .int .i64 J.pr, .int .u64 J.qt, .int .u64 J.pe, .int .i64 J.en]) 27))
      have HB_5a := hid (btr HB_5.out (ball w5 (.cells (#[.int .i64 J.ki, .int .i64 J.co, .int .u64 J.id, .int .u64 J.tg, .int .u32 J.me, .int .i64 J.si, .int .i64 J.ty, .int .i64 J.pr, .int .u64 J.qt, .int .u64 J.pe, .int .i64 J.en]) 27)))
      clear RF_5 RA_5 RB_5 RC_5 SZ_5 HB_5
      refine hid ?_
      go_wp2_with (first | (go_at_call 19; refine (RE.out _ SZ_5a.out (HM.out.on HB_5a.out)).mono ?_; rintro e w6 ⟨rfl, hb⟩; have RF_6 := hid (row_on RF_5a.out hb); have RA_6 := hid (row_on RA_5a.out hb); have RB_6 := hid (row_on RB_5a.out hb); have RC_6 := hid (row_on RC_5a.out hb); have RD_6 := hid (row_on RD_5a.out hb); have SZ_6 := hid (SZ_5a.out.on hb); have HB_6 := hid (btr HB_5a.out hb); clear hb; refine Hid.out ?_))
      clear RF_5a RA_5a RB_5a RC_5a RD_5a SZ_5a HB_5a
      have RF_6a := hid (row_on RF_6.out (ball w6 (.cells (#[.int .u64 U.sq, .int .i64 U.kd, .int .u64 U.id, .int .u64 U.ot, .int .u64 U.tg, .int .u32 U.me, .int .i64 U.si, .int .i64 U.ty, .int .i64 U.pr, .int .u64 U.qt, .int .u64 U.pe, .int .i64 U.re, .int .i64 U.co]) 30)))
      have RA_6a := hid (row_on RA_6.out (ball w6 (.cells (#[.int .u64 U.sq, .int .i64 U.kd, .int .u64 U.id, .int .u64 U.ot, .int .u64 U.tg, .int .u32 U.me, .int .i64 U.si, .int .i64 U.ty, .int .i64 U.pr, .int .u64 U.qt, .int .u64 U.pe, .int .i64 U.re, .int .i64 U.co]) 30)))
      have RB_6a := hid (row_on RB_6.out (ball w6 (.cells (#[.int .u64 U.sq, .int .i64 U.kd, .int .u64 U.id, .int .u64 U.ot, .int .u64 U.tg, .int .u32 U.me, .int .i64 U.si, .int .i64 U.ty, .int .i64 U.pr, .int .u64 U.qt, .int .u64 U.pe, .int .i64 U.re, .int .i64 U.co]) 30)))
      have RC_6a := hid (row_on RC_6.out (ball w6 (.cells (#[.int .u64 U.sq, .int .i64 U.kd, .int .u64 U.id, .int .u64 U.ot, .int .u64 U.tg, .int .u32 U.me, .int .i64 U.si, .int .i64 U.ty, .int .i64 U.pr, .int .u64 U.qt, .int .u64 U.pe, .int .i64 U.re, .int .i64 U.co]) 30)))
      have RD_6a := hid (row_on RD_6.out (ball w6 (.cells (#[.int .u64 U.sq, .int .i64 U.kd, .int .u64 U.id, .int .u64 U.ot, .int .u64 U.tg, .int .u32 U.me, .int .i64 U.si, .int .i64 U.ty, .int .i64 U.pr, .int .u64 U.qt, .int .u64 U.pe, .int .i64 U.re, .int .i64 U.co]) 30)))
      have SZ_6a := hid (SZ_6.out.on (ball w6 (.cells (#[.int .u64 U.sq, .int .i64 U.kd, .int .u64 U.id, .int .u64 U.ot, .int .u64 U.tg, .int .u32 U.me, .int .i64 U.si, .int .i64 U.ty, .int .i64 U.pr, .int .u64 U.qt, .int .u64 U.pe, .int .i64 U.re, .int .i64 U.co]) 30)))
      have RU_6a := hid (heap_alloc_new w6 (.cells (#[.int .u64 U.sq, .int .i64 U.kd, .int .u64 U.id, .int .u64 U.ot, .int .u64 U.tg, .int .u32 U.me, .int .i64 U.si, .int .i64 U.ty, .int .i64 U.pr, .int .u64 U.qt, .int .u64 U.pe, .int .i64 U.re, .int .i64 U.co]) 30))
      have HB_6a := hid (btr HB_6.out (ball w6 (.cells (#[.int .u64 U.sq, .int .i64 U.kd, .int .u64 U.id, .int .u64 U.ot, .int .u64 U.tg, .int .u32 U.me, .int .i64 U.si, .int .i64 U.ty, .int .i64 U.pr, .int .u64 U.qt, .int .u64 U.pe, .int .i64 U.re, .int .i64 U.co]) 30)))
      clear RF_6 RA_6 RB_6 RC_6 RD_6 SZ_6 HB_6
      clear RL RE
      by_cases d0 : d = 0
      · subst d0
        have h0f : (h == 0) = false := by
          simp
          intro e
          exact HNB.out rfl e
        obtain ⟨_, _, je, jl, n1, n2, jo⟩ := HRO.out rfl
        have LI := hid (fun w hL => lineI_any J jo w hL)
        rw [je, jl] at LI
        unfold Inp.v iV at LI
        obtain ⟨bq, oq, rfl, _⟩ := SZ_6a.out 0 (by omega)
        have htl : (z.take n).length = n := by simp; omega
        have g1 : ¬ ((n : Int) < 1) := by omega
        have g1d : decide ((n : Int) < 1) = false := by simpa using g1
        have g2 : ¬ ((z.length : Int) < (n : Int)) := by omega
        have g2d : decide ((z.length : Int) < (n : Int)) = false := by simpa using g2
        have g3 : (0 : Int) ≤ (n : Int) := by omega
        have g4 : (n : Int) ≤ (cz : Int) := by omega
        have STK := hid (SZ_6a.out.take n)
        clear HRO HEO HNB je jl jo
        obtain ⟨i11_0, i11_1, i11_2, i11_3, i11_4, i11_5, i11_6, i11_7, i11_8, i11_9, i11_10⟩ := cells_I RD_6a.out
        refine hid ?_
        go_wp2_with (first | (go_at_call 8; refine (LI.out _ (HM.out.on HB_6a.out).laye.lay).mono ?_; rintro e w7 ⟨v3, rfl, hO3, hn3⟩; have hb := hO3.2.1; have HO3 := hid hO3; clear hO3 hn3; have RF_7 := hid (row_on RF_6a.out hb); have RA_7 := hid (row_on RA_6a.out hb); have RB_7 := hid (row_on RB_6a.out hb); have RC_7 := hid (row_on RC_6a.out hb); have RD_7 := hid (row_on RD_6a.out hb); have RU_7 := hid (row_on RU_6a.out hb); have SZ_7 := hid (SZ_6a.out.on hb); have STK_7 := hid (STK.out.on hb); have HB_7 := hid (btr HB_6a.out hb); clear hb; refine Hid.out ?_))
        clear RF_6a RA_6a RB_6a RC_6a RD_6a RU_6a SZ_6a STK HB_6a
        clear i11_0 i11_1 i11_2 i11_3 i11_4 i11_5 i11_6 i11_7 i11_8 i11_9 i11_10
        obtain ⟨q3, c3, rfl, hS3, hc3, hm3⟩ := own_cap HO3.out
        have cv1 := conv_drew hS3 c3 _ rfl
        have cv2 := conv_drew STK_7.out cz n htl
        rw [htl] at cv1
        rw [htl]
        clear hS3 HO3 LI hc3 hm3 htl
        refine hid ?_
        go_wp2
        go_quiet (fail)
        go_wp2
        go_ret
        exact ⟨by simp, below_drewN HB_7.out _⟩
      · have d0f : (d == 0) = false := by simpa using d0
        by_cases h0 : h = 0
        · subst h0
          obtain ⟨_, _, je, jl, n1, n2, jo⟩ := HEO.out rfl
          have LI := hid (fun w hL => lineE_any U jo w hL)
          rw [je, jl] at LI
          unfold Evt.v eV at LI
          obtain ⟨bq, oq, rfl, _⟩ := SZ_6a.out 0 (by omega)
          have htl : (z.take m).length = m := by simp; omega
          have g1 : ¬ ((m : Int) < 1) := by omega
          have g1d : decide ((m : Int) < 1) = false := by simpa using g1
          have g2 : ¬ ((z.length : Int) < (m : Int)) := by omega
          have g2d : decide ((z.length : Int) < (m : Int)) = false := by simpa using g2
          have g3 : (0 : Int) ≤ (m : Int) := by omega
          have g4 : (m : Int) ≤ (cz : Int) := by omega
          have STK := hid (SZ_6a.out.take m)
          clear HRO HEO HNB je jl jo d0
          obtain ⟨e12_0, e12_1, e12_2, e12_3, e12_4, e12_5, e12_6, e12_7, e12_8, e12_9, e12_10, e12_11, e12_12⟩ := cells_E RU_6a.out
          refine hid ?_
          go_wp2_with (first | (go_at_call 10; refine (LI.out _ (HM.out.on HB_6a.out).laye.lay).mono ?_; rintro e w7 ⟨v3, rfl, hO3, hn3⟩; have hb := hO3.2.1; have HO3 := hid hO3; clear hO3 hn3; have RF_7 := hid (row_on RF_6a.out hb); have RA_7 := hid (row_on RA_6a.out hb); have RB_7 := hid (row_on RB_6a.out hb); have RC_7 := hid (row_on RC_6a.out hb); have RD_7 := hid (row_on RD_6a.out hb); have RU_7 := hid (row_on RU_6a.out hb); have SZ_7 := hid (SZ_6a.out.on hb); have STK_7 := hid (STK.out.on hb); have HB_7 := hid (btr HB_6a.out hb); clear hb; refine Hid.out ?_))
          clear RF_6a RA_6a RB_6a RC_6a RD_6a RU_6a SZ_6a STK HB_6a
          clear e12_0 e12_1 e12_2 e12_3 e12_4 e12_5 e12_6 e12_7 e12_8 e12_9 e12_10 e12_11 e12_12
          obtain ⟨q3, c3, rfl, hS3, hc3, hm3⟩ := own_cap HO3.out
          have cv1 := conv_drew hS3 c3 _ rfl
          have cv2 := conv_drew STK_7.out cz m htl
          rw [htl] at cv1
          rw [htl]
          clear hS3 HO3 LI hc3 hm3 htl
          refine hid ?_
          go_wp2
          go_quiet (fail)
          go_wp2
          go_ret
          exact ⟨by simp, below_drewN HB_7.out _⟩
        · have h0f : (h == 0) = false := by simpa using h0
          clear HRO HEO HNB d0 h0
          refine hid ?_
          go_wp2
          go_ret
          exact ⟨by simp, HB_6a.out⟩
    · have g0f : (G == 0) = false := by simpa using g0
      clear UK UJ okI okE e0 g0
      refine hid ?_
      go_wp2_with (first | (go_at_call 17; refine (RL.out _ SZ_3a.out (HM.out.on HB_3a.out)).mono ?_; rintro e w4 ⟨rfl, hb⟩; have RF_4 := hid (row_on RF_3a.out hb); have RA_4 := hid (row_on RA_3a.out hb); have RB_4 := hid (row_on RB_3a.out hb); have SZ_4 := hid (SZ_3a.out.on hb); have HB_4 := hid (btr HB_3a.out hb); clear hb; refine Hid.out ?_))
      clear RF_3a RA_3a RB_3a SZ_3a HB_3a
      have RF_4a := hid (row_on RF_4.out (ball w4 (.cells (#[.int .i64 J.ki, .int .i64 J.co, .int .u64 J.id, .int .u64 J.tg, .int .u32 J.me, .int .i64 J.si, .int .i64 J.ty, .int .i64 J.pr, .int .u64 J.qt, .int .u64 J.pe, .int .i64 J.en]) 27)))
      have RA_4a := hid (row_on RA_4.out (ball w4 (.cells (#[.int .i64 J.ki, .int .i64 J.co, .int .u64 J.id, .int .u64 J.tg, .int .u32 J.me, .int .i64 J.si, .int .i64 J.ty, .int .i64 J.pr, .int .u64 J.qt, .int .u64 J.pe, .int .i64 J.en]) 27)))
      have RB_4a := hid (row_on RB_4.out (ball w4 (.cells (#[.int .i64 J.ki, .int .i64 J.co, .int .u64 J.id, .int .u64 J.tg, .int .u32 J.me, .int .i64 J.si, .int .i64 J.ty, .int .i64 J.pr, .int .u64 J.qt, .int .u64 J.pe, .int .i64 J.en]) 27)))
      have SZ_4a := hid (SZ_4.out.on (ball w4 (.cells (#[.int .i64 J.ki, .int .i64 J.co, .int .u64 J.id, .int .u64 J.tg, .int .u32 J.me, .int .i64 J.si, .int .i64 J.ty, .int .i64 J.pr, .int .u64 J.qt, .int .u64 J.pe, .int .i64 J.en]) 27)))
      have RD_4a := hid (heap_alloc_new w4 (.cells (#[.int .i64 J.ki, .int .i64 J.co, .int .u64 J.id, .int .u64 J.tg, .int .u32 J.me, .int .i64 J.si, .int .i64 J.ty, .int .i64 J.pr, .int .u64 J.qt, .int .u64 J.pe, .int .i64 J.en]) 27))
      have HB_4a := hid (btr HB_4.out (ball w4 (.cells (#[.int .i64 J.ki, .int .i64 J.co, .int .u64 J.id, .int .u64 J.tg, .int .u32 J.me, .int .i64 J.si, .int .i64 J.ty, .int .i64 J.pr, .int .u64 J.qt, .int .u64 J.pe, .int .i64 J.en]) 27)))
      clear RF_4 RA_4 RB_4 SZ_4 HB_4
      refine hid ?_
      go_wp2_with (first | (go_at_call 19; refine (RE.out _ SZ_4a.out (HM.out.on HB_4a.out)).mono ?_; rintro e w5 ⟨rfl, hb⟩; have RF_5 := hid (row_on RF_4a.out hb); have RA_5 := hid (row_on RA_4a.out hb); have RB_5 := hid (row_on RB_4a.out hb); have RD_5 := hid (row_on RD_4a.out hb); have SZ_5 := hid (SZ_4a.out.on hb); have HB_5 := hid (btr HB_4a.out hb); clear hb; refine Hid.out ?_))
      clear RF_4a RA_4a RB_4a RD_4a SZ_4a HB_4a
      have RF_5a := hid (row_on RF_5.out (ball w5 (.cells (#[.int .u64 U.sq, .int .i64 U.kd, .int .u64 U.id, .int .u64 U.ot, .int .u64 U.tg, .int .u32 U.me, .int .i64 U.si, .int .i64 U.ty, .int .i64 U.pr, .int .u64 U.qt, .int .u64 U.pe, .int .i64 U.re, .int .i64 U.co]) 30)))
      have RA_5a := hid (row_on RA_5.out (ball w5 (.cells (#[.int .u64 U.sq, .int .i64 U.kd, .int .u64 U.id, .int .u64 U.ot, .int .u64 U.tg, .int .u32 U.me, .int .i64 U.si, .int .i64 U.ty, .int .i64 U.pr, .int .u64 U.qt, .int .u64 U.pe, .int .i64 U.re, .int .i64 U.co]) 30)))
      have RB_5a := hid (row_on RB_5.out (ball w5 (.cells (#[.int .u64 U.sq, .int .i64 U.kd, .int .u64 U.id, .int .u64 U.ot, .int .u64 U.tg, .int .u32 U.me, .int .i64 U.si, .int .i64 U.ty, .int .i64 U.pr, .int .u64 U.qt, .int .u64 U.pe, .int .i64 U.re, .int .i64 U.co]) 30)))
      have RD_5a := hid (row_on RD_5.out (ball w5 (.cells (#[.int .u64 U.sq, .int .i64 U.kd, .int .u64 U.id, .int .u64 U.ot, .int .u64 U.tg, .int .u32 U.me, .int .i64 U.si, .int .i64 U.ty, .int .i64 U.pr, .int .u64 U.qt, .int .u64 U.pe, .int .i64 U.re, .int .i64 U.co]) 30)))
      have SZ_5a := hid (SZ_5.out.on (ball w5 (.cells (#[.int .u64 U.sq, .int .i64 U.kd, .int .u64 U.id, .int .u64 U.ot, .int .u64 U.tg, .int .u32 U.me, .int .i64 U.si, .int .i64 U.ty, .int .i64 U.pr, .int .u64 U.qt, .int .u64 U.pe, .int .i64 U.re, .int .i64 U.co]) 30)))
      have RU_5a := hid (heap_alloc_new w5 (.cells (#[.int .u64 U.sq, .int .i64 U.kd, .int .u64 U.id, .int .u64 U.ot, .int .u64 U.tg, .int .u32 U.me, .int .i64 U.si, .int .i64 U.ty, .int .i64 U.pr, .int .u64 U.qt, .int .u64 U.pe, .int .i64 U.re, .int .i64 U.co]) 30))
      have HB_5a := hid (btr HB_5.out (ball w5 (.cells (#[.int .u64 U.sq, .int .i64 U.kd, .int .u64 U.id, .int .u64 U.ot, .int .u64 U.tg, .int .u32 U.me, .int .i64 U.si, .int .i64 U.ty, .int .i64 U.pr, .int .u64 U.qt, .int .u64 U.pe, .int .i64 U.re, .int .i64 U.co]) 30)))
      clear RF_5 RA_5 RB_5 RD_5 SZ_5 HB_5
      clear RL RE
      by_cases d0 : d = 0
      · subst d0
        have h0f : (h == 0) = false := by
          simp
          intro e
          exact HNB.out rfl e
        obtain ⟨_, _, je, jl, n1, n2, jo⟩ := HRO.out rfl
        have LI := hid (fun w hL => lineI_any J jo w hL)
        rw [je, jl] at LI
        unfold Inp.v iV at LI
        obtain ⟨bq, oq, rfl, _⟩ := SZ_5a.out 0 (by omega)
        have htl : (z.take n).length = n := by simp; omega
        have g1 : ¬ ((n : Int) < 1) := by omega
        have g1d : decide ((n : Int) < 1) = false := by simpa using g1
        have g2 : ¬ ((z.length : Int) < (n : Int)) := by omega
        have g2d : decide ((z.length : Int) < (n : Int)) = false := by simpa using g2
        have g3 : (0 : Int) ≤ (n : Int) := by omega
        have g4 : (n : Int) ≤ (cz : Int) := by omega
        have STK := hid (SZ_5a.out.take n)
        clear HRO HEO HNB je jl jo
        obtain ⟨i13_0, i13_1, i13_2, i13_3, i13_4, i13_5, i13_6, i13_7, i13_8, i13_9, i13_10⟩ := cells_I RD_5a.out
        refine hid ?_
        go_wp2_with (first | (go_at_call 8; refine (LI.out _ (HM.out.on HB_5a.out).laye.lay).mono ?_; rintro e w6 ⟨v3, rfl, hO3, hn3⟩; have hb := hO3.2.1; have HO3 := hid hO3; clear hO3 hn3; have RF_6 := hid (row_on RF_5a.out hb); have RA_6 := hid (row_on RA_5a.out hb); have RB_6 := hid (row_on RB_5a.out hb); have RD_6 := hid (row_on RD_5a.out hb); have RU_6 := hid (row_on RU_5a.out hb); have SZ_6 := hid (SZ_5a.out.on hb); have STK_6 := hid (STK.out.on hb); have HB_6 := hid (btr HB_5a.out hb); clear hb; refine Hid.out ?_))
        clear RF_5a RA_5a RB_5a RD_5a RU_5a SZ_5a STK HB_5a
        clear i13_0 i13_1 i13_2 i13_3 i13_4 i13_5 i13_6 i13_7 i13_8 i13_9 i13_10
        obtain ⟨q3, c3, rfl, hS3, hc3, hm3⟩ := own_cap HO3.out
        have cv1 := conv_drew hS3 c3 _ rfl
        have cv2 := conv_drew STK_6.out cz n htl
        rw [htl] at cv1
        rw [htl]
        clear hS3 HO3 LI hc3 hm3 htl
        refine hid ?_
        go_wp2
        go_quiet (fail)
        go_wp2
        go_ret
        exact ⟨by simp, below_drewN HB_6.out _⟩
      · have d0f : (d == 0) = false := by simpa using d0
        by_cases h0 : h = 0
        · subst h0
          obtain ⟨_, _, je, jl, n1, n2, jo⟩ := HEO.out rfl
          have LI := hid (fun w hL => lineE_any U jo w hL)
          rw [je, jl] at LI
          unfold Evt.v eV at LI
          obtain ⟨bq, oq, rfl, _⟩ := SZ_5a.out 0 (by omega)
          have htl : (z.take m).length = m := by simp; omega
          have g1 : ¬ ((m : Int) < 1) := by omega
          have g1d : decide ((m : Int) < 1) = false := by simpa using g1
          have g2 : ¬ ((z.length : Int) < (m : Int)) := by omega
          have g2d : decide ((z.length : Int) < (m : Int)) = false := by simpa using g2
          have g3 : (0 : Int) ≤ (m : Int) := by omega
          have g4 : (m : Int) ≤ (cz : Int) := by omega
          have STK := hid (SZ_5a.out.take m)
          clear HRO HEO HNB je jl jo d0
          obtain ⟨e14_0, e14_1, e14_2, e14_3, e14_4, e14_5, e14_6, e14_7, e14_8, e14_9, e14_10, e14_11, e14_12⟩ := cells_E RU_5a.out
          refine hid ?_
          go_wp2_with (first | (go_at_call 10; refine (LI.out _ (HM.out.on HB_5a.out).laye.lay).mono ?_; rintro e w6 ⟨v3, rfl, hO3, hn3⟩; have hb := hO3.2.1; have HO3 := hid hO3; clear hO3 hn3; have RF_6 := hid (row_on RF_5a.out hb); have RA_6 := hid (row_on RA_5a.out hb); have RB_6 := hid (row_on RB_5a.out hb); have RD_6 := hid (row_on RD_5a.out hb); have RU_6 := hid (row_on RU_5a.out hb); have SZ_6 := hid (SZ_5a.out.on hb); have STK_6 := hid (STK.out.on hb); have HB_6 := hid (btr HB_5a.out hb); clear hb; refine Hid.out ?_))
          clear RF_5a RA_5a RB_5a RD_5a RU_5a SZ_5a STK HB_5a
          clear e14_0 e14_1 e14_2 e14_3 e14_4 e14_5 e14_6 e14_7 e14_8 e14_9 e14_10 e14_11 e14_12
          obtain ⟨q3, c3, rfl, hS3, hc3, hm3⟩ := own_cap HO3.out
          have cv1 := conv_drew hS3 c3 _ rfl
          have cv2 := conv_drew STK_6.out cz m htl
          rw [htl] at cv1
          rw [htl]
          clear hS3 HO3 LI hc3 hm3 htl
          refine hid ?_
          go_wp2
          go_quiet (fail)
          go_wp2
          go_ret
          exact ⟨by simp, below_drewN HB_6.out _⟩
        · have h0f : (h == 0) = false := by simpa using h0
          clear HRO HEO HNB d0 h0
          refine hid ?_
          go_wp2
          go_ret
          exact ⟨by simp, HB_5a.out⟩
end Go.Proofs.YtjgjoohdocjpkaaDoor.Msg
namespace Go.Proofs.YtjgjoohdocjpkaaDoor.messageOneForm
open Go.ChangeShapes Go.WideShapes Go.ChangeAt Go.RowKit Go.Joins
set_option linter.unusedVariables false
set_option maxRecDepth 100000 in
theorem contract (H : Type) (enc : TypeId × Value → H) (W : World) (base : Nat) (args : Array Value) (ds gs : List (DataW H)) (before : List MemPlace)
    (hval : ∀ (j : Nat) t v, Tryd.f5.params[j]? = some t → args[j]? = some v → Value.okWide Tryd.prog W .any base t v)
    (hW : DataW.Whole enc Tryd.prog Tryd.f5.params.toList Rows.messageOneFormSpec.vars false W args.toList ds gs before) (hL : laidMetH Tryd.prog Rows.messageOneFormRow.laid W) (hsh : W.ShapedOpen Tryd.prog) (hZ : (DataW.weightsEach Tryd.prog (Tryd.f5.params.toList ++ (OpenSpec.ofChange Rows.messageOneFormSpec).bare.plain.varTypes Tryd.prog) (ds ++ gs)).all (· ≤ reachBytes) = true) :
    Calls Tryd.prog 5 args W fun e W' => ∃ v, e = .returned v ∧ Rows.messageOneFormSpec.post enc Tryd.prog Tryd.f5 false true false false W args v W' := by
  have hW' := hW
  obtain ⟨p, q, hA0, hV, rfl, hfz, hnd⟩ := hW
  have hA : DataW.TrodAll enc Tryd.prog W 0 (fun _ => true) true Tryd.f5.params.toList args.toList ds p := hA0
  rw [Tryd.params5] at hA hval
  obtain ⟨v0, vs0, d0, ds0, p0, q0, hargs, rfl, rfl, h0, r0⟩ := trodAll_cons hA
  obtain ⟨v1, vs1, d1, ds1, p1, q1, rfl, rfl, rfl, h1, r1⟩ := trodAll_cons r0
  obtain ⟨rfl, rfl, rfl⟩ := trodAll_nil r1
  obtain rfl : args = #[v0, v1] := by cases args; simp_all
  obtain ⟨rfl, rfl⟩ := trodVars_none hV
  have k0 := h0
  have lt0 : ∀ x ∈ p0, x.block < W.heap.size := by obtain ⟨m, hm⟩ := k0; exact DataW.trod_lt m _ _ _ hm
  have k1 := h1
  have lt1 : ∀ x ∈ p1, x.block < W.heap.size := by obtain ⟨m, hm⟩ := k1; exact DataW.trod_lt m _ _ _ hm
  obtain ⟨k, a0, a1, a2, a3, a4, a5, a6, rfl, hk, ha⟩ := Msg.open_frm (hval 0 40 v0 rfl rfl) h0
  obtain ⟨qz, cz, z, rfl, hSg, hdz, hz1, hz2⟩ := open_bytes (hval 1 31 v1 rfl rfl) h1
  have hzl := len_bytes hZ 1 (by rw [Tryd.params5]; rfl) rfl hdz
  clear hA0
  refine (Msg.oneform_walk k a0 a1 a2 a3 a4 a5 a6 hk ha z qz cz W hSg hz1 hz2 hzl ⟨lay_of hL, max_cell W hsh⟩).mono fun e W' ⟨he, bel⟩ => ?_
  subst he
  exact ⟨_, rfl, _, _, _, [], _, [], hW', trodAll_mk1 (shut_bool Tryd.underlying4 _), (trodAll_cons_mk (Below.trod laidOut (by kernel_rfl) (of_decide_eq_true (by kernel_rfl)) k0 bel lt0) (trodAll_cons_mk (Below.trod laidOut (by kernel_rfl) (of_decide_eq_true (by kernel_rfl)) k1 bel lt1) trodAll_mk0)), rfl, bel.frame _, fun h => by cases h⟩

theorem laid_met (os : Os) : laidMet Tryd.prog Rows.messageOneFormRow.laid ((laidWorld os).forCall (fun _ _ => 0) ⟨#[], #[.agg #[.int .u8 0, .int .u64 0, .int .u64 0, .int .u64 0, .int .u64 0, .int .u64 0, .int .u64 0, .int .u64 0], .slice none 0 0], []⟩).memory :=
  laidMet_of_run' 8 (by kernel_rfl) (by kernel_rfl)
theorem reads (os : Os) {H : Type} (enc : TypeId × Value → H) : ∃ places, DataW.whole enc Tryd.prog ((laidWorld os).forCall (fun _ _ => 0) ⟨#[], #[.agg #[.int .u8 0, .int .u64 0, .int .u64 0, .int .u64 0, .int .u64 0, .int .u64 0, .int .u64 0, .int .u64 0], .slice none 0 0], []⟩).memory Tryd.f5.params.toList Rows.messageOneFormSpec.vars false (#[.agg #[.int .u8 0, .int .u64 0, .int .u64 0, .int .u64 0, .int .u64 0, .int .u64 0, .int .u64 0, .int .u64 0], .slice none 0 0] : Array Value).toList 8 = some ([.agg [.lit (.int .u8 0), .agg [.lit (.int .u64 0), .lit (.int .u64 0), .lit (.int .u64 0), .lit (.int .u64 0), .lit (.int .u64 0), .lit (.int .u64 0), .lit (.int .u64 0)]], .nil], [], places) :=
  ⟨[], by kernel_rfl⟩

set_option maxRecDepth 100000 in
theorem lifted (os : Os) (started : os.Started) (H : Type) (enc : TypeId × Value → H) (F : Stop.Interp) :
    ReturnsInHanded {} Tryd.checked os 5 .any ((OpenSpec.ofChange Rows.messageOneFormSpec).preRow enc Tryd.prog Tryd.f5 Rows.messageOneFormRow.domain false Rows.messageOneFormRow.laid) (((OpenSpec.ofChange Rows.messageOneFormSpec).at F).post enc Tryd.prog Tryd.f5 false true false false) := by
  obtain ⟨places, hx⟩ := reads os enc
  refine returnsInHanded_of_row (C := Tryd.checked) (s := OpenSpec.ofChange Rows.messageOneFormSpec) own started (by kernel_rfl) Tryd.func5
    (witness_row_at (enc := enc) (C := Tryd.checked) false (laidWorld os) #[.agg #[.int .u8 0, .int .u64 0, .int .u64 0, .int .u64 0, .int .u64 0, .int .u64 0, .int .u64 0, .int .u64 0], .slice none 0 0] rfl (by kernel_rfl) (by kernel_rfl) (by kernel_rfl)
      (OpenSpec.preRow_of_cond 8 hx (by kernel_rfl) (fun k hk => by cases hk) (by kernel_rfl) (laid_met os))) ?_
  intro W base args ds gs before hval hW _ _ hZ hL hsh _
  exact contract H enc W base args ds gs before hval hW hL hsh hZ

theorem said : Rows.MessageOneFormSaid :=
  OpenClaim.holds_of_cond 5 Tryd.f5 rfl rfl rfl rfl rfl rfl rfl ⟨rfl, rfl, rfl, rfl, rfl⟩ rfl rfl rfl rfl rfl (by kernel_rfl) Tryd.func5 (by kernel_rfl)
    (of_decide_eq_true (by kernel_rfl)) (by unfold Func.isWrapper; first | (rw [if_pos (by decide +kernel)]; kernel_rfl) | (rw [if_neg (by decide +kernel)]; exact ⟨rfl, rfl⟩))
    (fun os started H enc _ F => by rw [OpenClaim.pre_eq_preRow]; exact lifted os started H enc F)

theorem plain (f : FuncId) (fn : Func) (hf : Tryd.pinned.checked.prog.funcNamed "bourse/bourselaw04.MessageOneForm" = some f) (hfn : Tryd.pinned.checked.prog.funcs[f]? = some fn) :
    true = Tryd.pinned.checked.prog.looks [] ∧ ∀ (j : Nat) t, fn.params[j]? = some t → Tryd.pinned.checked.prog.wantsStandIn t = false := by
  obtain rfl : f = 5 := Option.some.inj ((show Tryd.prog.funcNamed "bourse/bourselaw04.MessageOneForm" = some 5 by kernel_rfl).symm.trans hf) |>.symm
  obtain rfl : fn = Tryd.f5 := (Option.some.inj (Tryd.func5.symm.trans hfn)).symm
  refine ⟨by kernel_rfl, fun j t ht => ?_⟩
  rw [Tryd.params5] at ht
  have hm : t = 40 ∨ t = 31 := by simpa using Array.mem_of_getElem? ht
  rcases hm with rfl | rfl
  · exact (show Tryd.prog.wantsStandIn 40 = false by kernel_rfl)
  · exact (show Tryd.prog.wantsStandIn 31 = false by kernel_rfl)

theorem card : Rows.MessageOneFormCardSaid :=
  Claim7.holds_tied_plain_at .later [] _ _ _ _ said (fun _ h => by cases h) (by kernel_rfl) (fun _ h => by cases h) messageOneForm_row_tie rfl ⟨rfl, rfl⟩ (by kernel_rfl) rfl plain (by kernel_rfl)
end Go.Proofs.YtjgjoohdocjpkaaDoor.messageOneForm
namespace Go.Proofs.YtjgjoohdocjpkaaDoor
theorem messageOneForm_holds : Rows.MessageOneFormCardSaid := messageOneForm.card
#print axioms messageOneForm_holds
end Go.Proofs.YtjgjoohdocjpkaaDoor
