/-
  TextDecodes' walk.
-/
import Derived.Test.YtcokggeodbipjaaDoorTzF
import Derived.Test.YtcokggeodbipjaaDoorTzG
import Derived.Test.YtcokggeodbipjaaDoorTxG
import Derived.Test.YtcokggeodbipjaaDoorTyO
namespace Go.Proofs.YtcokggeodbipjaaDoor
open Go.RowKit Go.Deep Go.Lib Go.Shelf Go.Sort
set_option linter.unusedVariables false

theorem dec_small (l : List UInt8) : (decR l).2.1.length ≤ 64 ∧ ∀ x ∈ (decR l).2.1, x.2.length ≤ 2048 := by
  obtain ⟨kd, tg, pl, why, hd⟩ : ∃ a b c d, decR l = (a, b, c, d) := ⟨_, _, _, _, rfl⟩
  by_cases hw : why = 0
  · subst hw
    have h := line_small (decR_back hd).2.2.1
    rw [hd]
    exact h.2
  · have ht : (decR l).2.1 = [] := by
      unfold decR at hd ⊢
      split
      · rfl
      · rename_i h1
        rw [if_neg h1] at hd
        split
        · rfl
        · rename_i h2
          rw [if_neg h2] at hd
          simp only [Prod.mk.injEq] at hd
          exact absurd hd.2.2.2.symm hw
    rw [ht]
    exact ⟨by simp, fun x hx => by cases hx⟩
theorem OwnT.far {B g : Nat} {W0 w w' : World} {v : Value} {l : List (Int × List UInt8)} (h : OwnT B W0 w v l) (hg : w.grownBy w' (some g)) (hB : g < B) : OwnT B w' w' v l := by
  obtain ⟨⟨h1, h2⟩, h3, h4⟩ := h
  refine ⟨⟨h1, ?_⟩, Below.refl _ _, Nat.le_trans h4 hg.size⟩
  rcases h2 with h2 | ⟨r, cap, cur, e, hr, hc, k⟩
  · exact Or.inl h2
  · have hlt : r < w.heap.size := by
      rcases Nat.lt_or_ge r w.heap.size with h' | h'
      · exact h'
      · simp [Array.getElem?_eq_none h'] at hc
    exact Or.inr ⟨r, cap, cur, e, hr, by rw [hg.block r hlt (by simp; omega)]; exact hc, k⟩
set_option maxHeartbeats 4000000 in
set_option maxRecDepth 100000 in
theorem decodes_walk (l : List UInt8) (q : Option Addr) (cap : Nat) (tag : Int) (w : World) (hS : Sg w q cap l) (hcap : l.length ≤ cap) (hcm : cap < 9223372036854775808) (hl : l.length ≤ 140737488351232) (hM : LayM w) :
    Calls Tryd.prog 7 #[.slice q l.length cap, .int .i64 tag] w fun e w' => e = .returned (.bool true) ∧ Below w.heap.size w w' := by
  have HS := hid hS
  have HM := hid hM
  have LE := hid (lent_any l q cap w hl hS)
  have DC := hid (fun q c w' hc hm hS hM => decode_any l q c w' (by omega) hc hm hS hM)
  have RC := hid (fun w' hS => rdecode_any l q cap w' (by omega) hcap hcm hS)
  have KE := hid (fun g c w' h1 h2 => kept_any l g c q cap w' hl h1 h2)
  have S1 := hid (fun q cap w h => sum_any l q cap w (by omega) h)
  have S2 := hid (fun q cap w h => rsum_any l q cap w (by omega) h)
  have D7 := hid (fun w hL => decimal_any 7 (by decide) w hL)
  rw [decDigits_one (by decide)] at D7
  obtain ⟨SS, hSS⟩ : ∃ x, sumB l = x := ⟨_, rfl⟩
  obtain ⟨hm1, hm2⟩ := dec_small l
  obtain ⟨kd, tg, pl, why, hd⟩ : ∃ a b c d, decR l = (a, b, c, d) := ⟨_, _, _, _, rfl⟩
  rw [hd] at DC RC hm1 hm2
  rw [hSS] at S1 S2
  simp only at DC RC hm1 hm2
  have hll : tg.length < 9223372036854775808 := by omega
  have TS := hid (fun q1 q2 c1 c2 w' h1 h2 => tags_same tg q1 q2 c1 c2 w' hll h1 h2)
  have HS2 := hid (show ∀ x ∈ tg, x.2.length ≤ 281474976710656 from fun x hx => by have := hm2 x hx; omega)
  obtain ⟨A, hA⟩ : ∃ A, (val? tg tag).getD [] = A := ⟨_, rfl⟩
  obtain ⟨A2, hA2⟩ : ∃ A, (val? tg tag).isSome = A := ⟨_, rfl⟩
  obtain ⟨A3, hA3⟩ : ∃ A, (numOf tg tag).1 = A := ⟨_, rfl⟩
  obtain ⟨A4, hA4⟩ : ∃ A, (numOf tg tag).2 = A := ⟨_, rfl⟩
  have V1 := hid (fun q cap w hT => value_any tg q cap tag w hll hT)
  have V2 := hid (fun q cap w hT => rvalue_any tg q cap tag w hll hT)
  have V3 := hid (fun q cap w hT hL => tnumber_any tg q cap tag w hll HS2.out hT hL)
  have V4 := hid (fun q cap w hT => rnumber_any tg q cap tag w hll HS2.out hT)
  simp only [hA, hA2, hA3, hA4] at V1 V2 V3 V4
  clear hA hA2 hA3 hA4 hSS hd hm2 hS hM HS2
  go_enter Tryd.func7, Tryd.ntmps7
  go_wp2_with (first | (go_at_call 23; refine LE.out.mono ?_; rintro e w1 ⟨g, c, rfl, hO⟩; have HO1 := hid hO; clear hO; refine Hid.out ?_))
  obtain ⟨g', c', hv, hBg, hgl, hc1, hc2, hpre⟩ := own_sliceC HO1.out (by rw [room_len]; omega)
  obtain ⟨rfl, rfl⟩ : g = g' ∧ c = c' := by simp at hv; exact ⟨hv.1, hv.2.2⟩
  rw [List.length_append, room_len] at hc1
  have HPRE := hid hpre
  have HA1 := hid (show Sb w1 (some ⟨g, 0, none⟩) (l ++ roomB) by
    obtain ⟨q', c', e, h⟩ := HO1.out.form
    have : q' = some ⟨g, 0, none⟩ := by simp at e; exact e.1.symm
    rw [← this]
    exact h)
  have HC1 := hid (show Sb w1 (some ⟨g, 0, none⟩) l by have h := HA1.out.take l.length; simpa using h)
  have HB1 := hid HO1.out.2.1
  clear hv hpre HO1 LE
  refine Lib.hid ?_
  go_wp2_with (first | (go_at_call 22; refine (DC.out _ _ _ (by omega) hc2 HC1.out (HM.out.on HB1.out)).mono ?_; rintro e w2 ⟨v2, rfl, hO⟩; have HO2 := hid hO; clear hO; refine Hid.out ?_))
  have HB2 := hid (btr' HB1.out HO2.out.2.1)
  have hg2 : w1.heap.size ≤ w2.heap.size := HO2.out.2.1.size
  refine Lib.hid ?_
  go_wp2_with (first | (go_at_call 24; refine (RC.out _ (HS.out.on HB2.out).1).mono ?_; rintro e w3 ⟨v3, rfl, hO⟩; have HO3 := hid hO; clear hO; refine Hid.out ?_))
  have HB3 := hid (btr' HB2.out HO3.out.2.1)
  have HO23 := hid (HO2.out.on HO3.out.2.1)
  obtain ⟨q2, c2, rfl, hT2, _, _⟩ := HO23.out.form
  obtain ⟨q3, c3, rfl, hT3, _, _⟩ := HO3.out.form
  have B13 := hid (btr' HO2.out.2.1 HO3.out.2.1)
  have T2 := hid hT2
  have T3 := hid hT3
  clear hT2 hT3 HO2 DC RC
  refine Lib.hid ?_
  go_wp2_with (first | (go_at_call 14; refine (TS.out _ _ _ _ _ T2.out T3.out).mono ?_; rintro e w4 ⟨rfl, hb⟩; have B4 := hid hb; clear hb; refine Hid.out ?_))
  have HB4 := hid (btr' HB3.out B4.out)
  have B14 := hid (btr' B13.out B4.out)
  refine Lib.hid ?_
  go_wp2_with (first | (go_at_call 25; refine (KE.out _ _ _ (HA1.out.on B14.out) (HS.out.on HB4.out).1).mono ?_; rintro e w5 ⟨rfl, hb⟩; have B5 := hid hb; clear hb; refine Hid.out ?_))
  have HB5 := hid (btr' HB4.out B5.out)
  have B15 := hid (btr' B14.out B5.out)
  have B35 := hid (btr' B4.out B5.out)
  have HC5 := hid (HC1.out.on B15.out)
  have HS5 := hid (HS.out.on HB5.out).1
  have FU := hid (full7_any (.slice (some ⟨g, 0, none⟩) l.length c) l.length w.heap.size (byteCells l) w5 hl HB5.out.size (by
    refine ⟨HPRE.out.1, ?_⟩
    rcases HPRE.out.2 with h | ⟨r, cc, cur, e, hr, hcc, k⟩
    · exact Or.inl h
    · exact Or.inr ⟨r, cc, cur, e, hr, by rw [B15.out.block r (row_lt hcc)]; exact hcc, k⟩))
  refine Lib.hid ?_
  go_wp2_with (first | (go_at_call 19; refine (S1.out _ _ _ HC5.out).mono ?_; rintro e w5x ⟨rfl, rfl⟩) | (go_at_call 20; refine (S2.out _ _ _ HS5.out).mono ?_; rintro e w5y ⟨rfl, rfl⟩; refine Hid.out ?_))
  refine Lib.hid ?_
  go_wp2_with (first | (go_at_call 18; refine FU.out.mono ?_; rintro e w6 ⟨rfl, hg⟩; have G6 := hid (show World.grownBy _ w6 (some g) from hg); clear hg; refine Hid.out ?_))
  have HB6 := hid (show Below w.heap.size w w6 from HB5.out.grown G6.out HB5.out.size (fun k hk => by cases hk; exact hBg))
  have O26 := hid ((HO23.out.on B35.out).far G6.out hgl)
  have O36 := hid ((HO3.out.on B35.out).far G6.out (by omega))
  have T26 := hid O26.out.form'
  have T36 := hid O36.out.form'
  clear T2 T3 HO23 HO3 FU HPRE HA1 HC1 HC5 HS5 B13 B14 B15 B35 B4 B5 O26 O36 KE S1 S2 G6
  refine Lib.hid ?_
  go_wp2_with (first | (go_at_call 14; refine (TS.out _ _ _ _ _ T26.out T36.out).mono ?_; rintro e w7 ⟨rfl, hb⟩; have B7 := hid hb; clear hb; refine Hid.out ?_))
  have HB7 := hid (btr' HB6.out B7.out)
  have T27 := hid (T26.out.on B7.out)
  have T37 := hid (T36.out.on B7.out)
  clear T26 T36 TS
  refine Lib.hid ?_
  go_wp2_with (first | (go_at_call 11; refine (V1.out _ _ _ T27.out).mono ?_; rintro e w8 ⟨rfl, hb⟩; have T28 := hid (T27.out.on hb); have T38 := hid (T37.out.on hb); have HB8 := hid (btr' HB7.out hb); clear hb) | (go_at_call 12; refine (V2.out _ _ _ T38.out).mono ?_; rintro e w8x ⟨rfl, rfl⟩) | (go_at_call 10; refine (V3.out _ _ _ T28.out (HM.out.on HB8.out).laye).mono ?_; rintro e w9 ⟨rfl, hb⟩; have T39 := hid (T38.out.on hb); have HB9 := hid (btr' HB8.out hb); clear hb) | (go_at_call 13; refine (V4.out _ _ _ T39.out).mono ?_; rintro e w9x ⟨rfl, rfl⟩) | (go_at_call 9; refine (D7.out _ (HM.out.on HB9.out).laye.lay).mono ?_; rintro e wa ⟨rfl, hb⟩; have HBa := hid (btr' HB9.out hb); clear hb))
  all_goals (go_ret; refine ⟨?_, HBa.out⟩; first | rfl | simp)
end Go.Proofs.YtcokggeodbipjaaDoor
