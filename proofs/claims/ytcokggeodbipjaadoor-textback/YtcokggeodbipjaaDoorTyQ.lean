/-
  TextBack: the walk.
-/
import Derived.Test.YtcokggeodbipjaaDoorTyP
namespace Go.Proofs.YtcokggeodbipjaaDoor
open Go.RowKit Go.Deep Go.Lib Go.Shelf Go.Sort
set_option linter.unusedVariables false

set_option maxHeartbeats 4000000 in
set_option maxRecDepth 100000 in
theorem back_walk (kind : List UInt8) (l : List (Int × List UInt8)) (q : Option Addr) (cap : Nat) (z : List UInt8) (qz : Option Addr) (cz : Nat) (w : World) (hT : Tg w q cap l) (hcap : l.length ≤ cap) (hcm : cap < 9223372036854775808) (hk : kind.length ≤ 140737488351232) (hl : l.length * 24 ≤ 140737488351232) (hs : ∀ x ∈ l, x.2.length ≤ 140737488351232) (hZ : Sg w qz cz z) (hz1 : z.length ≤ cz) (hz2 : cz < 9223372036854775808) (hzl : z.length ≤ 140737488351232) (hM : LayM w) :
    Calls Tryd.prog 8 #[.string ⟨kind.toArray⟩, .slice q l.length cap, .slice qz z.length cz] w fun e w' => e = .returned (.bool true) ∧ Below w.heap.size w w' := by
  have HT := hid hT
  have HM := hid hM
  have HZ := hid hZ
  have HB0 := hid (ball w (.cells #[] 28))
  have HO := hid (show (w.alloc (.cells #[] 28)).ownsRow w.heap.size 28 2 (.slice (some ⟨w.heap.size, 0, none⟩) 0 0) 0 (tv []) from World.ownsRow_made (base := w.heap.size) (e := 28) (size := 2) w #[] 0 (Nat.le_refl _) (Nat.zero_le _) rfl)
  have HT0 := hid (hT.on HB0.out)
  have hll : l.length < 9223372036854775808 := by omega
  have HS := hid (show ∀ x ∈ l, x.2.length ≤ 140737488355328 from fun x hx => by have := hs x hx; omega)
  have EN := hid (fun q cap w hc hm hT hL => encode_any kind l q cap w (by omega) HS.out hll hc hm hT hL)
  have E1 := hid (fun w hL => encode_any [48] [] none 0 w (by decide) (fun x hx => by cases hx) (by decide) (Nat.le_refl _) (by decide) (fun i hi => by simp at hi) hL)
  have hbl := encB_len kind l
  have hob := enc_one.2
  have hLine := hid (show encE kind l = 0 → decR (encB kind l ++ z) = (kind, l, (encB kind l).length, 0) ∧ 0 < (encB kind l).length from fun h => by
    have e : encB kind l = lineB kind l := by unfold encB; rw [if_pos h]
    rw [e]
    exact ⟨decR_line kind l z h, by rw [lineB_len]; omega⟩)
  rw [enc_one.1] at E1
  have BK := hid (show ∀ k m n, decR z = (k, m, n, 0) → 1 ≤ n ∧ n ≤ z.length ∧ encE k m = 0 ∧ lineB k m = z.take n from fun k m n h => decR_back h)
  have DZ := hid (fun q c w hc hm hS hM => decode_any z q c w (by omega) hc hm hS hM)
  obtain ⟨zk, zm, zn, ze, hd⟩ : ∃ x1 x2 x3 x4, decR z = (x1, x2, x3, x4) := ⟨_, _, _, _, rfl⟩
  replace BK := hid (show ze = 0 → 1 ≤ zn ∧ zn ≤ z.length ∧ encE zk zm = 0 ∧ lineB zk zm = z.take zn from fun h => BK.out zk zm zn (by rw [hd, h]))
  rw [hd] at DZ
  simp only at DZ
  obtain ⟨EB, hEB⟩ : ∃ x, encB kind l = x := ⟨_, rfl⟩
  obtain ⟨EE, hEE⟩ : ∃ x, encE kind l = x := ⟨_, rfl⟩
  obtain ⟨OB, hOB⟩ : ∃ x, encB [48] [] = x := ⟨_, rfl⟩
  rw [hEB] at EN hbl hLine
  rw [hEE] at EN hLine
  rw [hOB] at E1 hob
  have hob2 : (0 : Int) < (OB.length : Int) := by omega
  have HOB := hid hob
  clear hT hM hs hEB hEE hOB hob hd hZ
  go_enter Tryd.func8, Tryd.ntmps8
  go_wp2_with (first | (at_builtin; refine wpList_append_tags _ (by rfl) (.tmp 23) (.tmp 24) (by rfl) w.heap.size w.heap.size 0 0 [] (by rfl) HO.out q cap l.length l rfl (by rfl) HT0.out (by omega) HB0.out.size l.length l (by simp) rfl ?_; intro g1 c1 w1 hown1 hb1; have O1 := hid hown1; have HB1 := hid (HB0.out.trans hb1); clear hown1 hb1; refine Hid.out ?_))
  obtain ⟨hc1, hm1⟩ := own_caps O1.out
  have M1 := hid (ts_own (by simp) O1.out)
  clear O1 HO HB0 HT0
  refine Lib.hid ?_
  go_wp2_with (first | (go_at_call 15; refine (EN.out _ _ _ hc1 hm1 M1.out (HM.out.on HB1.out).laye.lay).mono ?_; rintro e w2 ⟨vx, rfl, hOx, hnx⟩; have OX := hid hOx; have HB2 := hid (btr' HB1.out hOx.2.1); clear hOx hnx; refine Hid.out ?_))
  clear M1 EN
  obtain ⟨qx, cx, hvx, hSx⟩ := OX.out.form
  subst hvx
  by_cases he : EE = 0
  · subst he
    obtain ⟨hdl, hEl⟩ := hLine.out rfl
    obtain ⟨Z, hZ⟩ : ∃ x, EB ++ z = x := ⟨_, rfl⟩
    have hZl : Z.length ≤ 140737488355328 := by rw [← hZ, List.length_append]; omega
    rw [hZ] at hdl
    have DL := hid (fun q c w hc hm hS hM => decode_any Z q c w (by omega) hc hm hS hM)
    have HZZ := hid hZ
    clear hZ
    rw [hdl] at DL
    simp only at DL
    obtain ⟨bx, ox, rfl, _⟩ := hSx 0 hEl
    have HE := hid (own_emptyB w2)
    have HSY := hid (hSx.on (ball w2 (.cells #[] 5)))
    have TS := hid (fun q1 q2 c1 c2 w' h1 h2 => tags_same l q1 q2 c1 c2 w' hll h1 h2)
    clear hdl hSx OX hLine
    refine Lib.hid ?_
    go_wp2_with (first | (at_builtin; refine own_slice _ (by rfl) (.tmp 32) (.tmp 33) (by rfl) w2.heap.size _ [] (by rfl) w2 HE.out bx ox _ cx EB rfl (by rfl) HSY.out (by simp; omega) ?_; intro v3 w3 hO3; have HO3 := hid (show Own w2.heap.size w2 w3 v3 EB from hO3); clear hO3; refine Hid.out ?_))
    have HZ3 := hid (HZ.out.on (btr' HB2.out HO3.out.2.1))
    refine Lib.hid ?_
    go_wp2_with (first | (at_builtin; refine own_sliceQ _ (by rfl) (.tmp 34) (.tmp 35) (by rfl) w2.heap.size v3 EB (by rfl) w2 HO3.out qz _ cz z rfl (by rfl) HZ3.out (by omega) ?_; intro v4 w4 hO4; rw [HZZ.out] at hO4; have HO4 := hid hO4; clear hO4; refine Hid.out ?_))
    obtain ⟨q4, c4, hv4, hS4, hc4, hm4⟩ := own_cap HO4.out
    have HB4 := hid (btr' HB2.out HO4.out.2.1)
    have HS4 := hid hS4
    subst hv4
    clear HE HSY HO3 HZ3 hS4 HO4
    refine Lib.hid ?_
    go_wp2_with (go_at_call 22; refine (DL.out q4 c4 _ hc4 hm4 HS4.out (HM.out.on HB4.out)).mono ?_; rintro e w5 ⟨v5, rfl, hO5⟩; have HO5 := hid hO5; clear hO5; refine Hid.out ?_)
    have HB5 := hid (btr' HB4.out HO5.out.2.1)
    obtain ⟨q5, c5, hv5, hT5, hc5, hm5⟩ := HO5.out.form
    subst hv5
    have HT5 := hid hT5
    clear HS4 hT5 HO5 DL
    refine Lib.hid ?_
    go_wp2_with (go_at_call 14; refine (TS.out _ _ _ _ _ HT5.out (HT.out.on HB5.out).1).mono ?_; rintro e w5b ⟨rfl, hb⟩; have HB5b := hid (btr' HB5.out hb); clear hb; refine Hid.out ?_)
    have HEb := hid (own_emptyB w5b)
    have HZc := hid ((HZ.out.on HB5b.out).on (ball w5b (.cells #[] 5)))
    refine Lib.hid ?_
    go_wp2_with (first | (at_builtin; refine own_sliceQ _ (by rfl) (.tmp 62) (.tmp 63) (by rfl) w5b.heap.size _ [] (by rfl) w5b HEb.out qz _ cz z rfl (by rfl) HZc.out (by simp; omega) ?_; intro v6 w6 hO6; have HO6 := hid (show Own w5b.heap.size w5b w6 v6 z from hO6); clear hO6; refine Hid.out ?_))
    obtain ⟨q6, c6, hv6, hS6, hc6, hm6⟩ := own_cap HO6.out
    have HB6 := hid (btr' HB5b.out HO6.out.2.1)
    have HS6 := hid hS6
    subst hv6
    clear HEb HZc HO6 hS6
    refine Lib.hid ?_
    go_wp2_with (go_at_call 22; refine (DZ.out q6 c6 _ hc6 hm6 HS6.out (HM.out.on HB6.out)).mono ?_; rintro e w7 ⟨v7, rfl, hO7⟩; have HO7 := hid hO7; clear hO7; refine Hid.out ?_)
    have HB7 := hid (btr' HB6.out HO7.out.2.1)
    refine Lib.hid ?_
    by_cases hze : ze = 0
    · subst hze
      obtain ⟨n1, n2, n3, n4⟩ := BK.out rfl
      obtain ⟨s1, s2, s3⟩ := line_small n3
      obtain ⟨q7, c7, hv7, hT7, hc7, hm7⟩ := HO7.out.form
      subst hv7
      have HT7 := hid hT7
      have HS3 := hid s3
      have EZ := hid (fun w' hT hL => encode_any zk zm q7 c7 w' (by omega) (fun x hx => by have := HS3.out x hx; omega) (by omega) hc7 hm7 hT hL)
      have hzb : encB zk zm = z.take zn := by unfold encB; rw [if_pos n3, n4]
      have hztl : (z.take zn).length = zn := by simp; omega
      have SMZ := hid (fun q1 q2 c1 c2 w' h1 h2 => same_same (z.take zn) q1 q2 c1 c2 w' (by omega) h1 h2)
      rw [n3, hzb] at EZ
      rw [hztl] at SMZ
      have g1 : ¬ ((zn : Int) < 1) := by omega
      have g2 : ¬ ((z.length : Int) < (zn : Int)) := by omega
      have g3 : (0 : Int) ≤ (zn : Int) := by omega
      have g4 : (zn : Int) ≤ (cz : Int) := by omega
      obtain ⟨bz, oz, rfl, _⟩ := HZ.out.1 0 (by omega)
      have HZT := hid (fun (w' : World) (hb : Below w.heap.size w w') => ((HZ.out.1.on hb).take zn))
      clear n3 n4 s3 hT7 hzb BK
      go_wp2_with (go_at_call 15; refine (EZ.out _ HT7.out (HM.out.on HB7.out).laye.lay).mono ?_; rintro e w8 ⟨v8, rfl, hO8, _⟩; have HO8 := hid hO8; clear hO8; refine Hid.out ?_)
      obtain ⟨q8, c8, hv8, hS8⟩ := HO8.out.form
      have HB8 := hid (btr' HB7.out HO8.out.2.1)
      have HS8 := hid hS8
      rw [hztl] at hv8
      subst hv8
      clear HO8 hS8 EZ HT7
      refine Lib.hid ?_
      go_wp2_with (go_at_call 17; refine (SMZ.out _ _ _ _ _ HS8.out (HZT.out _ HB8.out)).mono ?_; rintro e w9 ⟨rfl, hb⟩; have HB9 := hid (btr' HB8.out hb); clear hb; refine Hid.out ?_)
      refine Lib.hid ?_
      go_wp2_with (go_at_call 15; refine (E1.out _ (HM.out.on HB9.out).laye.lay).mono ?_; rintro e wa ⟨vo, rfl, hOo, hno⟩; have HBa := hid (btr' HB9.out hOo.2.1); have FO := hid hOo.form; clear hOo hno; refine Hid.out ?_)
      obtain ⟨qo, co, hvo, _⟩ := FO.out
      subst hvo
      refine Lib.hid ?_
      go_wp2
      go_ret
      exact ⟨by have := HOB.out; simp; omega, HBa.out⟩
    · have hzf : (ze == 0) = false := by simpa using hze
      go_wp2_with (go_at_call 15; refine (E1.out _ (HM.out.on HB7.out).laye.lay).mono ?_; rintro e wa ⟨vo, rfl, hOo, hno⟩; have HBa := hid (btr' HB7.out hOo.2.1); have FO := hid hOo.form; clear hOo hno; refine Hid.out ?_)
      obtain ⟨qo, co, hvo, _⟩ := FO.out
      subst hvo
      refine Lib.hid ?_
      go_wp2
      go_ret
      exact ⟨by have := HOB.out; simp; omega, HBa.out⟩
  · have hef : (EE == 0) = false := by simpa using he
    clear hSx OX hLine
    have HEb := hid (own_emptyB w2)
    have HZc := hid ((HZ.out.on HB2.out).on (ball w2 (.cells #[] 5)))
    refine Lib.hid ?_
    go_wp2_with (first | (at_builtin; refine own_sliceQ _ (by rfl) (.tmp 62) (.tmp 63) (by rfl) w2.heap.size _ [] (by rfl) w2 HEb.out qz _ cz z rfl (by rfl) HZc.out (by simp; omega) ?_; intro v6 w6 hO6; have HO6 := hid (show Own w2.heap.size w2 w6 v6 z from hO6); clear hO6; refine Hid.out ?_))
    obtain ⟨q6, c6, hv6, hS6, hc6, hm6⟩ := own_cap HO6.out
    have HB6 := hid (btr' HB2.out HO6.out.2.1)
    have HS6 := hid hS6
    subst hv6
    clear HEb HZc HO6 hS6
    refine Lib.hid ?_
    go_wp2_with (go_at_call 22; refine (DZ.out q6 c6 _ hc6 hm6 HS6.out (HM.out.on HB6.out)).mono ?_; rintro e w7 ⟨v7, rfl, hO7⟩; have HO7 := hid hO7; clear hO7; refine Hid.out ?_)
    have HB7 := hid (btr' HB6.out HO7.out.2.1)
    refine Lib.hid ?_
    by_cases hze : ze = 0
    · subst hze
      obtain ⟨n1, n2, n3, n4⟩ := BK.out rfl
      obtain ⟨s1, s2, s3⟩ := line_small n3
      obtain ⟨q7, c7, hv7, hT7, hc7, hm7⟩ := HO7.out.form
      subst hv7
      have HT7 := hid hT7
      have HS3 := hid s3
      have EZ := hid (fun w' hT hL => encode_any zk zm q7 c7 w' (by omega) (fun x hx => by have := HS3.out x hx; omega) (by omega) hc7 hm7 hT hL)
      have hzb : encB zk zm = z.take zn := by unfold encB; rw [if_pos n3, n4]
      have hztl : (z.take zn).length = zn := by simp; omega
      have SMZ := hid (fun q1 q2 c1 c2 w' h1 h2 => same_same (z.take zn) q1 q2 c1 c2 w' (by omega) h1 h2)
      rw [n3, hzb] at EZ
      rw [hztl] at SMZ
      have g1 : ¬ ((zn : Int) < 1) := by omega
      have g2 : ¬ ((z.length : Int) < (zn : Int)) := by omega
      have g3 : (0 : Int) ≤ (zn : Int) := by omega
      have g4 : (zn : Int) ≤ (cz : Int) := by omega
      obtain ⟨bz, oz, rfl, _⟩ := HZ.out.1 0 (by omega)
      have HZT := hid (fun (w' : World) (hb : Below w.heap.size w w') => ((HZ.out.1.on hb).take zn))
      clear n3 n4 s3 hT7 hzb BK
      go_wp2_with (go_at_call 15; refine (EZ.out _ HT7.out (HM.out.on HB7.out).laye.lay).mono ?_; rintro e w8 ⟨v8, rfl, hO8, _⟩; have HO8 := hid hO8; clear hO8; refine Hid.out ?_)
      obtain ⟨q8, c8, hv8, hS8⟩ := HO8.out.form
      have HB8 := hid (btr' HB7.out HO8.out.2.1)
      have HS8 := hid hS8
      rw [hztl] at hv8
      subst hv8
      clear HO8 hS8 EZ HT7
      refine Lib.hid ?_
      go_wp2_with (go_at_call 17; refine (SMZ.out _ _ _ _ _ HS8.out (HZT.out _ HB8.out)).mono ?_; rintro e w9 ⟨rfl, hb⟩; have HB9 := hid (btr' HB8.out hb); clear hb; refine Hid.out ?_)
      refine Lib.hid ?_
      go_wp2_with (go_at_call 15; refine (E1.out _ (HM.out.on HB9.out).laye.lay).mono ?_; rintro e wa ⟨vo, rfl, hOo, hno⟩; have HBa := hid (btr' HB9.out hOo.2.1); have FO := hid hOo.form; clear hOo hno; refine Hid.out ?_)
      obtain ⟨qo, co, hvo, _⟩ := FO.out
      subst hvo
      refine Lib.hid ?_
      go_wp2
      go_ret
      exact ⟨by have := HOB.out; simp; omega, HBa.out⟩
    · have hzf : (ze == 0) = false := by simpa using hze
      go_wp2_with (go_at_call 15; refine (E1.out _ (HM.out.on HB7.out).laye.lay).mono ?_; rintro e wa ⟨vo, rfl, hOo, hno⟩; have HBa := hid (btr' HB7.out hOo.2.1); have FO := hid hOo.form; clear hOo hno; refine Hid.out ?_)
      obtain ⟨qo, co, hvo, _⟩ := FO.out
      subst hvo
      refine Lib.hid ?_
      go_wp2
      go_ret
      exact ⟨by have := HOB.out; simp; omega, HBa.out⟩
end Go.Proofs.YtcokggeodbipjaaDoor
