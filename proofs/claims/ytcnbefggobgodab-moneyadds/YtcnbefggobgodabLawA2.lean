/-
  MoneyAdds: amounts add up in any order.
-/
import Derived.Test.YtcnbefggobgodabLawH
import Derived.Deep.DrawnRows
namespace Go.Proofs.Ytcnbefggobgodab.moneyAdds
open Go.RowKit Go.Deep MonM TexM
set_option linter.unusedVariables false
set_option linter.unusedSimpArgs false
attribute [local go_sem ↓] Go.wp_at_zero Go.wp_at_succ

set_option maxHeartbeats 60000000 in
set_option maxRecDepth 100000 in
theorem lawA2 (A0 A1 B0 B1 C0 C1 x y z Ea Eb Ec : Int) (w : World) (hx : Hid (Amt x)) (hy : Hid (Amt y)) (hz : Hid (Amt z)) (hs : Hid (Amt (maddV x y)))
    (hA : (Ea = 0 ∧ A0 = hiW x ∧ A1 = loW x) ∨ (Ea = 3 ∧ A0 = 9223372036854775808 ∧ A1 = 0 ∧ x = 0))
    (FP : Hid (∀ (xs : List Int) (w : World), IsText x xs → Calls Try.prog 15 #[.string (strOfNums xs)] w fun e w' => e = .returned (.tuple #[mv x, .int .i64 0]) ∧ Below w.heap.size w w'))
    (fa : Hid (∀ w : World, Calls Try.prog 8 #[.agg #[.int .u64 A0, .int .u64 A1]] w fun e w' => e = .returned (.tuple #[mv x, .int .i64 Ea]) ∧ Below w.heap.size w w'))
    (fb : Hid (∀ w : World, Calls Try.prog 8 #[.agg #[.int .u64 B0, .int .u64 B1]] w fun e w' => e = .returned (.tuple #[mv y, .int .i64 Eb]) ∧ Below w.heap.size w w'))
    (fc : Hid (∀ w : World, Calls Try.prog 8 #[.agg #[.int .u64 C0, .int .u64 C1]] w fun e w' => e = .returned (.tuple #[mv z, .int .i64 Ec]) ∧ Below w.heap.size w w'))
    (na : (Ea == 0) = !(A0 == 9223372036854775808 && A1 == 0)) (nb : (Eb == 0) = !(B0 == 9223372036854775808 && B1 == 0)) (nc : (Ec == 0) = !(C0 == 9223372036854775808 && C1 == 0))
    (hxy : -170141183460469231731687303715884105727 ≤ x + y ∧ x + y ≤ 170141183460469231731687303715884105727) (hyz : (maddE y z == 0) = false) :
    Calls Try.prog 4 #[.agg #[.int .u64 A0, .int .u64 A1], .agg #[.int .u64 B0, .int .u64 B1], .agg #[.int .u64 C0, .int .u64 C1]] w fun e w' => e = .returned (.bool true) ∧ Below w.heap.size w w' := by
  have heq := eqArr
  have hE : maddE x y = 0 := if_pos hxy
  have hV : maddV x y = x + y := if_pos hxy
  have hx' := hx.out
  have hy' := hy.out
  have hz' := hz.out
  obtain ⟨hx1, hx2⟩ := hx'
  obtain ⟨hy1, hy2⟩ := hy'
  obtain ⟨hz1, hz2⟩ := hz'
  have G1 := hid (show maddV (maddV x y) (-y) = x by rw [hV]; unfold maddV; rw [if_pos (by omega)]; omega)
  have G2 := hid (show maddE (maddV x y) (-y) = 0 by rw [hV]; unfold maddE; rw [if_pos (by omega)])
  have G3 := hid (show decide (0 < cmp3 (maddV x y) x) = decide (0 < sgn y) by
    rw [hV]; unfold cmp3 sgn
    by_cases h1 : y < 0
    · rw [if_pos (by omega), if_pos h1]
    · by_cases h2 : 0 < y
      · rw [if_neg (by omega), if_pos (by omega), if_neg h1, if_pos h2]
      · rw [if_neg (by omega), if_neg (by omega), if_neg h1, if_neg h2])
  have G4 := hid (show maddE y z = 0 → maddV (maddV x y) z = maddV x (maddV y z) ∧ maddE (maddV x y) z = maddE x (maddV y z) by
    intro h
    rw [hV]
    unfold maddE at h
    have h2 : -170141183460469231731687303715884105727 ≤ y + z ∧ y + z ≤ 170141183460469231731687303715884105727 := by
      by_cases hk : -170141183460469231731687303715884105727 ≤ y + z ∧ y + z ≤ 170141183460469231731687303715884105727
      · exact hk
      · rw [if_neg hk] at h; omega
    have e : maddV y z = y + z := if_pos h2
    rw [e]; unfold maddV maddE
    rw [show x + (y + z) = x + y + z from by omega]
    exact ⟨rfl, rfl⟩)
  clear hx1 hx2 hy1 hy2 hz1 hz2 hV hxy
  have cm1 : maddV y x = maddV x y := by unfold maddV; rw [Int.add_comm]
  have cm2 : maddE y x = maddE x y := by unfold maddE; rw [Int.add_comm]
  have cc : cmp3 y x = - cmp3 x y := by unfold cmp3; split <;> split <;> omega
  have c1 : -1 ≤ cmp3 x y := by unfold cmp3; split <;> (try split) <;> decide
  have c2 : cmp3 x y ≤ 1 := by unfold cmp3; split <;> (try split) <;> decide
  have cw : IntKind.i64.wrap (cmp3 x y) = cmp3 x y := by rw [wrap_i64]; omega
  unfold mv at fa fb fc
  go_enter Try.func4, Try.ntmps4
  go_wp2_with fail
  refine (fa.out _).mono ?_
  rintro e w1 ⟨rfl, hb1⟩
  have L1 := hid (btr (bal (bal (bal (b0 w) (.cells #[.int .u64 A0, .int .u64 A1] 31)) (.cells #[.int .u64 B0, .int .u64 B1] 31)) (.cells #[.int .u64 C0, .int .u64 C1] 31)) hb1)
  have Ba := hid ((((bx_new w A0 A1 31).alloc (.cells #[.int .u64 B0, .int .u64 B1] 31)).alloc (.cells #[.int .u64 C0, .int .u64 C1] 31)).to hb1)
  have Bb := hid (((bx_new1 w B0 B1 A0 A1 31 31).alloc (.cells #[.int .u64 C0, .int .u64 C1] 31)).to hb1)
  have Bc := hid ((show Bx (((w.alloc (.cells #[.int .u64 A0, .int .u64 A1] 31)).alloc (.cells #[.int .u64 B0, .int .u64 B1] 31)).alloc (.cells #[.int .u64 C0, .int .u64 C1] 31)) (w.heap.size + 1 + 1) C0 C1 from by have h := bx_new1 (w.alloc (.cells #[.int .u64 A0, .int .u64 A1] 31)) C0 C1 B0 B1 31 31; simpa using h).to hb1)
  clear hb1
  obtain ⟨r0, r1, r2⟩ := Bb.out
  go_wp2_with fail
  refine (fb.out _).mono ?_
  rintro e w2 ⟨rfl, hb⟩
  have L2 := hid (btr (bal L1.out _) hb)
  have Ba := hid ((Ba.out.alloc _).to hb)
  have Bb := hid ((Bb.out.alloc _).to hb)
  have Bc := hid ((Bc.out.alloc _).to hb)
  have Bx1 := hid ((bx_new w1 (hiW x) (loW x) 33).to hb)
  clear hb r0 r1 r2
  obtain ⟨r0, r1, r2⟩ := Bc.out
  go_wp2_with fail
  refine (fc.out _).mono ?_
  rintro e w3 ⟨rfl, hb⟩
  have L3 := hid (btr (bal L2.out _) hb)
  have Ba := hid ((Ba.out.alloc _).to hb)
  have Bb := hid ((Bb.out.alloc _).to hb)
  have Bc := hid ((Bc.out.alloc _).to hb)
  have Bx1 := hid ((Bx1.out.alloc _).to hb)
  have By := hid ((bx_new w2 (hiW y) (loW y) 33).to hb)
  clear hb r0 r1 r2
  obtain ⟨a0, a1, a2⟩ := Ba.out
  obtain ⟨c0, c1', c2'⟩ := Bb.out
  obtain ⟨d0, d1, d2⟩ := Bc.out
  have Bz := hid (bx_new w3 (hiW z) (loW z) 33)
  obtain ⟨x0, x1, x2⟩ := Bx1.out
  obtain ⟨y0, y1, y2⟩ := By.out
  have l1 : w.heap.size ≤ w3.heap.size := by omega
  have l2 : w1.heap.size ≤ w3.heap.size := by omega
  have l3 : w2.heap.size ≤ w3.heap.size := by omega
  go_wp2_with fail
  refine (madd_any x y _ hx.out hy.out).mono ?_
  rintro e w4 ⟨rfl, hb⟩
  have L4 := hid (btr (bal (bal L3.out _) _) hb)
  have Ba := hid (((Ba.out.alloc _).alloc _).to hb)
  have Bx1 := hid (((Bx1.out.alloc _).alloc _).to hb)
  have By := hid (((By.out.alloc _).alloc _).to hb)
  have Bz := hid ((Bz.out.alloc _).to hb)
  clear hb a0 a1 a2 c0 c1' c2' d0 d1 d2 x0 x1 x2 y0 y1 y2 l1 l2 l3 na nb nc Bb Bc
  obtain ⟨x0, x1, x2⟩ := Bx1.out
  obtain ⟨y0, y1, y2⟩ := By.out
  unfold mv
  go_wp2_with fail
  refine (madd_any y x _ hy.out hx.out).mono ?_
  rintro e w5 ⟨rfl, hb⟩
  rw [cm1, cm2]
  have L5 := hid (btr (bal L4.out _) hb)
  have Ba := hid ((Ba.out.alloc _).to hb)
  have Bx1 := hid ((Bx1.out.alloc _).to hb)
  have By := hid ((By.out.alloc _).to hb)
  have Bz := hid ((Bz.out.alloc _).to hb)
  have Bs := hid ((bx_new w4 (hiW (maddV x y)) (loW (maddV x y)) 33).to hb)
  have Bt := hid (bx_new w5 (hiW (maddV x y)) (loW (maddV x y)) 33)
  clear hb x0 x1 x2 y0 y1 y2 cm1 cm2
  have Ba := hid (Ba.out.alloc (.cells #[.int .u64 (hiW (maddV x y)), .int .u64 (loW (maddV x y))] 33))
  have Bx1 := hid (Bx1.out.alloc (.cells #[.int .u64 (hiW (maddV x y)), .int .u64 (loW (maddV x y))] 33))
  have By := hid (By.out.alloc (.cells #[.int .u64 (hiW (maddV x y)), .int .u64 (loW (maddV x y))] 33))
  have Bz := hid (Bz.out.alloc (.cells #[.int .u64 (hiW (maddV x y)), .int .u64 (loW (maddV x y))] 33))
  have Bs := hid (Bs.out.alloc (.cells #[.int .u64 (hiW (maddV x y)), .int .u64 (loW (maddV x y))] 33))
  have L5 := hid (bal L5.out (.cells #[.int .u64 (hiW (maddV x y)), .int .u64 (loW (maddV x y))] 33))
  unfold mv
  go_wp2
  obtain ⟨W5, hW5⟩ : ∃ W, w5.alloc (.cells #[.int .u64 (hiW (maddV x y)), .int .u64 (loW (maddV x y))] 33) = W := ⟨_, rfl⟩
  rw [hW5] at Ba Bx1 By Bz Bs Bt L5 ⊢
  clear hW5
  go_region_held3 (fun w' => (w'.cell? ⟨w1.heap.size, 0, none⟩ = some (.int .u64 (hiW x)) ∧ w'.cell? ⟨w1.heap.size, 1, none⟩ = some (.int .u64 (loW x))) ∧ (w'.cell? ⟨w2.heap.size, 0, none⟩ = some (.int .u64 (hiW y)) ∧ w'.cell? ⟨w2.heap.size, 1, none⟩ = some (.int .u64 (loW y))) ∧ (w'.cell? ⟨w4.heap.size, 0, none⟩ = some (.int .u64 (hiW (maddV x y))) ∧ w'.cell? ⟨w4.heap.size, 1, none⟩ = some (.int .u64 (loW (maddV x y)))) ∧ (w'.cell? ⟨w5.heap.size, 0, none⟩ = some (.int .u64 (hiW (maddV x y))) ∧ w'.cell? ⟨w5.heap.size, 1, none⟩ = some (.int .u64 (loW (maddV x y)))) ∧ Below W5.heap.size W5 w') (first | exact ⟨⟨Bx1.out.1, Bx1.out.2.1⟩, ⟨By.out.1, By.out.2.1⟩, ⟨Bs.out.1, Bs.out.2.1⟩, ⟨Bt.out.1, Bt.out.2.1⟩, Below.drew (Below.refl _ _)⟩ | (have hk := HK.out; exact ⟨⟨(Bx1.out.to hk).1, (Bx1.out.to hk).2.1⟩, ⟨(By.out.to hk).1, (By.out.to hk).2.1⟩, ⟨(Bs.out.to hk).1, (Bs.out.to hk).2.1⟩, ⟨(Bt.out.to hk).1, (Bt.out.to hk).2.1⟩, hk⟩))
    (first
      | (go_at_call 10; refine (words_any _ _ _).mono ?_; rintro e wk ⟨rfl, hbk⟩; have HK := hid (show Below W5.heap.size W5 wk from (by first | exact btr HK.out hbk | exact btr (Below.drew (Below.refl _ _)) hbk)); clear hbk)
      | (go_at_call 11; refine (mcompare_any _ _ _ ?_ ?_).mono ?_; (first | exact hx.out | exact hy.out | exact hz.out | exact hs.out); (first | exact hx.out | exact hy.out | exact hz.out | exact hs.out); rintro e wk ⟨rfl, hbk⟩; have HK := hid (show Below W5.heap.size W5 wk from (by first | exact btr HK.out hbk | exact btr (Below.drew (Below.refl _ _)) hbk)); clear hbk))
  have L6 := hid (btr L5.out HK.out)
  have Ba := hid (Ba.out.to HK.out)
  have Bx1 := hid (Bx1.out.to HK.out)
  have By := hid (By.out.to HK.out)
  have Bz := hid (Bz.out.to HK.out)
  have Bs := hid (Bs.out.to HK.out)
  clear HK Bt
  obtain ⟨y0, y1, y2⟩ := By.out
  obtain ⟨s0, s1, s2⟩ := Bs.out
  go_wp2_with fail
  refine (msub_any (maddV x y) y _ hs.out hy.out).mono ?_
  rintro e w7 ⟨rfl, hb⟩
  rw [G1.out, G2.out]
  have L7 := hid (btr L6.out hb)
  have Ba := hid (Ba.out.to hb)
  have Bx1 := hid (Bx1.out.to hb)
  have By := hid (By.out.to hb)
  have Bz := hid (Bz.out.to hb)
  have Bs := hid (Bs.out.to hb)
  clear hb y0 y1 y2 s0 s1 s2 cc c1 c2 cw
  have Bq := hid (bx_new w7 (hiW x) (loW x) 33)
  have Ba := hid (Ba.out.alloc (.cells #[.int .u64 (hiW x), .int .u64 (loW x)] 33))
  have Bx1 := hid (Bx1.out.alloc (.cells #[.int .u64 (hiW x), .int .u64 (loW x)] 33))
  have By := hid (By.out.alloc (.cells #[.int .u64 (hiW x), .int .u64 (loW x)] 33))
  have Bz := hid (Bz.out.alloc (.cells #[.int .u64 (hiW x), .int .u64 (loW x)] 33))
  have Bs := hid (Bs.out.alloc (.cells #[.int .u64 (hiW x), .int .u64 (loW x)] 33))
  have L7 := hid (bal L7.out (.cells #[.int .u64 (hiW x), .int .u64 (loW x)] 33))
  unfold mv
  go_wp2
  obtain ⟨W7, hW7⟩ : ∃ W, w7.alloc (.cells #[.int .u64 (hiW x), .int .u64 (loW x)] 33) = W := ⟨_, rfl⟩
  rw [hW7] at Ba Bx1 By Bz Bs Bq L7 ⊢
  clear hW7
  have g3 := G3.out
  go_region_held3 (fun w' => (w'.cell? ⟨w1.heap.size, 0, none⟩ = some (.int .u64 (hiW x)) ∧ w'.cell? ⟨w1.heap.size, 1, none⟩ = some (.int .u64 (loW x))) ∧ (w'.cell? ⟨w2.heap.size, 0, none⟩ = some (.int .u64 (hiW y)) ∧ w'.cell? ⟨w2.heap.size, 1, none⟩ = some (.int .u64 (loW y))) ∧ (w'.cell? ⟨w4.heap.size, 0, none⟩ = some (.int .u64 (hiW (maddV x y))) ∧ w'.cell? ⟨w4.heap.size, 1, none⟩ = some (.int .u64 (loW (maddV x y)))) ∧ (w'.cell? ⟨w7.heap.size, 0, none⟩ = some (.int .u64 (hiW x)) ∧ w'.cell? ⟨w7.heap.size, 1, none⟩ = some (.int .u64 (loW x))) ∧ Below W7.heap.size W7 w') (first | exact ⟨⟨Bx1.out.1, Bx1.out.2.1⟩, ⟨By.out.1, By.out.2.1⟩, ⟨Bs.out.1, Bs.out.2.1⟩, ⟨Bq.out.1, Bq.out.2.1⟩, Below.drew (Below.refl _ _)⟩ | (have hk := HK.out; exact ⟨⟨(Bx1.out.to hk).1, (Bx1.out.to hk).2.1⟩, ⟨(By.out.to hk).1, (By.out.to hk).2.1⟩, ⟨(Bs.out.to hk).1, (Bs.out.to hk).2.1⟩, ⟨(Bq.out.to hk).1, (Bq.out.to hk).2.1⟩, hk⟩))
    (first
      | (go_at_call 10; refine (words_any _ _ _).mono ?_; rintro e wk ⟨rfl, hbk⟩; have HK := hid (show Below W7.heap.size W7 wk from (by first | exact btr HK.out hbk | exact btr (Below.drew (Below.refl _ _)) hbk)); clear hbk)
      | (go_at_call 11; refine (mcompare_any _ _ _ ?_ ?_).mono ?_; (first | exact hx.out | exact hy.out | exact hz.out | exact hs.out); (first | exact hx.out | exact hy.out | exact hz.out | exact hs.out); rintro e wk ⟨rfl, hbk⟩; have HK := hid (show Below W7.heap.size W7 wk from (by first | exact btr HK.out hbk | exact btr (Below.drew (Below.refl _ _)) hbk)); clear hbk)
      | (go_at_call 13; refine (sign_any _ _ ?_).mono ?_; (first | exact hx.out | exact hy.out | exact hz.out | exact hs.out | exact ho.out); rintro e wk ⟨rfl, hbk⟩; have HK := hid (show Below W7.heap.size W7 wk from (by first | exact btr HK.out hbk | exact btr (Below.drew (Below.refl _ _)) hbk)); clear hbk))
  have L8 := hid (btr L7.out HK.out)
  have Ba := hid (Ba.out.to HK.out)
  have Bx1 := hid (Bx1.out.to HK.out)
  have By := hid (By.out.to HK.out)
  have Bz := hid (Bz.out.to HK.out)
  have Bs := hid (Bs.out.to HK.out)
  clear HK Bq
  obtain ⟨s0, s1, s2⟩ := Bs.out
  obtain ⟨z0, z1, z2⟩ := Bz.out
  go_wp2_with fail
  refine (madd_any (maddV x y) z _ hs.out hz.out).mono ?_
  rintro e w9 ⟨rfl, hb⟩
  have L9 := hid (btr L8.out hb)
  have Ba := hid (Ba.out.to hb)
  have Bx1 := hid (Bx1.out.to hb)
  have By := hid (By.out.to hb)
  have Bz := hid (Bz.out.to hb)
  clear hb s0 s1 s2 z0 z1 z2 Bs g3
  unfold mv
  obtain ⟨y0, y1, y2⟩ := By.out
  obtain ⟨z0, z1, z2⟩ := Bz.out
  go_wp2_with fail
  refine (madd_any y z _ hy.out hz.out).mono ?_
  rintro e w10 ⟨rfl, hb⟩
  have L20 := hid (bal (btr (bal L9.out _) hb) (.cells #[.int .u64 (hiW (maddV y z)), .int .u64 (loW (maddV y z))] 33))
  have Ba := hid (((Ba.out.alloc _).to hb).alloc (.cells #[.int .u64 (hiW (maddV y z)), .int .u64 (loW (maddV y z))] 33))
  have Bx1 := hid (((Bx1.out.alloc _).to hb).alloc (.cells #[.int .u64 (hiW (maddV y z)), .int .u64 (loW (maddV y z))] 33))
  clear hb y0 y1 y2 z0 z1 z2 By Bz
  unfold mv
  go_wp2
  obtain ⟨wk, hwk⟩ : ∃ W, w10.alloc (.cells #[.int .u64 (hiW (maddV y z)), .int .u64 (loW (maddV y z))] 33) = W := ⟨_, rfl⟩
  rw [hwk] at Ba Bx1 L20 ⊢
  clear hwk hyz G1 G2 G3 G4
  have hnx := hid (amt_neg x hx.out)
  have v0 := hid (show maddV x (-x) = 0 by unfold maddV; rw [Int.add_right_neg]; rfl)
  have e0 := hid (show maddE x (-x) = 0 by unfold maddE; rw [Int.add_right_neg]; rfl)
  obtain ⟨x0, x1, x2⟩ := Bx1.out
  try go_wp2
  go_region_held3 (fun w' => (w'.cell? ⟨w1.heap.size, 0, none⟩ = some (.int .u64 (hiW x)) ∧ w'.cell? ⟨w1.heap.size, 1, none⟩ = some (.int .u64 (loW x))) ∧ Below wk.heap.size wk w') (exact keepB Bx1.out (by repeat (first | exact HK.out | exact Below.refl _ _ | refine bal ?_ _ | refine Below.setCell ?_ (by dsimp only; omega) _ | refine Below.drew ?_)))
    (first
    | (go_at_call 14; refine (neg_any _ _).mono ?_; rintro e wn ⟨rfl, hbk⟩; have HK := hid (show Below wk.heap.size wk wn from (by refine btr ?_ hbk; repeat (first | exact HK.out | exact Below.refl _ _ | refine bal ?_ _ | refine Below.setCell ?_ (by dsimp only; omega) _ | refine Below.drew ?_))); have hzwn : wk.heap.size ≤ wn.heap.size := HK.out.size; (first | (have T := hid (two_to T.out hbk)) | (have T := hid (two_to (two_new _ 0) hbk)) | (have T := hid (two_to (two_drew (two_new _ 0)) hbk)) | skip); (try (have t0 := T.out.c0; have t1 := T.out.c1; have t2 := T.out.f0; have t3 := T.out.f1)); clear hbk)
    | (go_at_call 9; refine (madd_any x (-x) _ hx.out hnx.out).mono ?_; rintro e wl ⟨rfl, hbk⟩; rw [v0.out, e0.out]; have HK := hid (show Below wk.heap.size wk wl from (by refine btr ?_ hbk; repeat (first | exact HK.out | exact Below.refl _ _ | refine bal ?_ _ | refine Below.setCell ?_ (by dsimp only; omega) _ | refine Below.drew ?_))); have hzwl : wk.heap.size ≤ wl.heap.size := HK.out.size; (first | (have T := hid (two_to T.out hbk)) | (have T := hid (two_to (two_new _ 0) hbk)) | (have T := hid (two_to (two_drew (two_new _ 0)) hbk)) | skip); (try (have t0 := T.out.c0; have t1 := T.out.c1; have t2 := T.out.f0; have t3 := T.out.f1)); clear hbk))
  ·
    go_wp2_with fail
    refine (text_walk x _ hx.out).mono ?_
    rintro e w22 ⟨⟨xs, hxs, rfl⟩, hb⟩
    have M22 := hid (show Below wk.heap.size wk w22 from (by refine btr ?_ hb; repeat (first | exact HK.out | exact Below.refl _ _ | refine bal ?_ _ | refine Below.setCell ?_ (by dsimp only; omega) _ | refine Below.drew ?_)))
    first | have Bo := hid ((two_bx T.out 0).to hb) | have Bo := hid ((bx_new wl (hiW 0) (loW 0) 33).to hb)
    have L22 := hid (btr L20.out M22.out)
    have Ba := hid (Ba.out.to M22.out)
    have Bx1 := hid (Bx1.out.to M22.out)
    clear hb HK M22 L20 x0 x1 x2
    try clear T t0 t1 t2 t3
    go_wp2_with fail
    refine (FP.out xs _ hxs).mono ?_
    rintro e w23 ⟨rfl, hb⟩
    have L23 := hid (bal (btr L22.out hb) (.cells #[.int .u64 (hiW x), .int .u64 (loW x)] 33))
    have Ba := hid ((Ba.out.to hb).alloc (.cells #[.int .u64 (hiW x), .int .u64 (loW x)] 33))
    have Bx1 := hid ((Bx1.out.to hb).alloc (.cells #[.int .u64 (hiW x), .int .u64 (loW x)] 33))
    have Bo := hid ((Bo.out.to hb).alloc (.cells #[.int .u64 (hiW x), .int .u64 (loW x)] 33))
    have Bg := hid (bx_new w23 (hiW x) (loW x) 33)
    clear hb L22
    unfold mv
    go_wp2
    obtain ⟨W24, hW24⟩ : ∃ W, w23.alloc (.cells #[.int .u64 (hiW x), .int .u64 (loW x)] 33) = W := ⟨_, rfl⟩
    rw [hW24] at Ba Bx1 Bo Bg L23 ⊢
    clear hW24
    have z1 : sgn 0 = 0 := rfl
    have z2 : hiW 0 = 0 := rfl
    have z3 : loW 0 = 0 := rfl
    clear fa fb fc hE
    rcases hA with ⟨h1, h2, h3⟩ | ⟨h1, h2, h3, h4⟩
    ·
      subst h1 h2 h3
      refine wp_region_held_drew (S := (fun w' => (w'.cell? ⟨w1.heap.size, 0, none⟩ = some (.int .u64 (hiW x)) ∧ w'.cell? ⟨w1.heap.size, 1, none⟩ = some (.int .u64 (loW x))) ∧ (w'.cell? ⟨wl.heap.size, 0, none⟩ = some (.int .u64 (hiW 0)) ∧ w'.cell? ⟨wl.heap.size, 1, none⟩ = some (.int .u64 (loW 0))) ∧ (w'.cell? ⟨w23.heap.size, 0, none⟩ = some (.int .u64 (hiW x)) ∧ w'.cell? ⟨w23.heap.size, 1, none⟩ = some (.int .u64 (loW x))) ∧ (w'.cell? ⟨w.heap.size, 0, none⟩ = some (.int .u64 (hiW x)) ∧ w'.cell? ⟨w.heap.size, 1, none⟩ = some (.int .u64 (loW x))) ∧ Below W24.heap.size W24 w')) (by kernel_rfl) ?_ (fun hHeld => ?_)
      · (try dsimp only); (first | exact ⟨⟨Bx1.out.1, Bx1.out.2.1⟩, ⟨Bo.out.1, Bo.out.2.1⟩, ⟨Bg.out.1, Bg.out.2.1⟩, ⟨Ba.out.1, Ba.out.2.1⟩, Below.drew (Below.refl _ _)⟩ | (have hk := HK.out; exact ⟨⟨(Bx1.out.to hk).1, (Bx1.out.to hk).2.1⟩, ⟨(Bo.out.to hk).1, (Bo.out.to hk).2.1⟩, ⟨(Bg.out.to hk).1, (Bg.out.to hk).2.1⟩, ⟨(Ba.out.to hk).1, (Ba.out.to hk).2.1⟩, hk⟩))
      refine' wpAnyH_take (i := 0) (oi := _) (v := _) rfl (by kernel_rfl) (by kernel_rfl) (by kernel_rfl) (fun _ _ _ h => h) (Or.inl ⟨by kernel_rfl, ?hyq175⟩) (by assumption) ?restq175
      case hyq175 => (intro w hSw; (try dsimp only at hSw); go_simp; try (with_reducible rfl))
      try simp only [List.getElem_toArray, List.getElem_cons_succ, List.getElem_cons_zero, Act.put, List.setIfInBounds_toArray, List.set_cons_zero, List.set_cons_succ]
      refine' wpAnyH_take (i := 1) (oi := _) (v := _) rfl (by kernel_rfl) (by kernel_rfl) (by kernel_rfl) (fun _ _ _ h => h) (Or.inl ⟨by kernel_rfl, ?hyq176⟩) (by assumption) ?restq176
      case hyq176 => (intro w hSw; (try dsimp only at hSw); go_simp; try (with_reducible rfl))
      try simp only [List.getElem_toArray, List.getElem_cons_succ, List.getElem_cons_zero, Act.put, List.setIfInBounds_toArray, List.set_cons_zero, List.set_cons_succ]
      refine' wpAnyH_take (i := 2) (oi := _) (v := _) rfl (by kernel_rfl) (by kernel_rfl) (by kernel_rfl) (fun _ _ _ h => h) (Or.inl ⟨by kernel_rfl, ?hyq177⟩) (by assumption) ?restq177
      case hyq177 => (intro w hSw; (try dsimp only at hSw); go_simp; try (with_reducible rfl))
      try simp only [List.getElem_toArray, List.getElem_cons_succ, List.getElem_cons_zero, Act.put, List.setIfInBounds_toArray, List.set_cons_zero, List.set_cons_succ]
      refine' wpAnyH_take (i := 3) (oi := _) (v := _) rfl (by kernel_rfl) (by kernel_rfl) (by kernel_rfl) (fun _ _ _ h => h) (Or.inl ⟨by kernel_rfl, ?hyq178⟩) (by assumption) ?restq178
      case hyq178 => (intro w hSw; (try dsimp only at hSw); go_simp; try (with_reducible rfl))
      try simp only [List.getElem_toArray, List.getElem_cons_succ, List.getElem_cons_zero, Act.put, List.setIfInBounds_toArray, List.set_cons_zero, List.set_cons_succ]
      refine wpAnyH_ready (rs := [4]) (by kernel_rfl) (by simp) ?_
      refine AllReadyH.cons (o := _) rfl (fun K hK => ?_) AllReadyH.nil
      go_simp
      refine (sign_any 0 _ (by unfold Amt; omega)).mono ?_; rintro e wm ⟨rfl, hbk⟩; have HK := hid (show Below W24.heap.size W24 wm from (by first | exact btr HK.out hbk | exact btr (Below.drew (Below.refl _ _)) hbk)); clear hbk
      (try go_wp2_with fail)
      refine hK.out _ _ ?_ (fun hHeld => ?_)
      · (try dsimp only); (first | exact ⟨⟨Bx1.out.1, Bx1.out.2.1⟩, ⟨Bo.out.1, Bo.out.2.1⟩, ⟨Bg.out.1, Bg.out.2.1⟩, ⟨Ba.out.1, Ba.out.2.1⟩, Below.drew (Below.refl _ _)⟩ | (have hk := HK.out; exact ⟨⟨(Bx1.out.to hk).1, (Bx1.out.to hk).2.1⟩, ⟨(Bo.out.to hk).1, (Bo.out.to hk).2.1⟩, ⟨(Bg.out.to hk).1, (Bg.out.to hk).2.1⟩, ⟨(Ba.out.to hk).1, (Ba.out.to hk).2.1⟩, hk⟩))
      clear hK K
      try simp only [List.getElem_toArray, List.getElem_cons_succ, List.getElem_cons_zero, Act.put, List.setIfInBounds_toArray, List.set_cons_zero, List.set_cons_succ]
      refine' wpAnyH_take (i := 5) (oi := _) (v := _) rfl (by kernel_rfl) (by kernel_rfl) (by kernel_rfl) (fun _ _ _ h => h) (Or.inl ⟨by kernel_rfl, ?hyq179⟩) (by assumption) ?restq179
      case hyq179 => (intro w hSw; (try dsimp only at hSw); go_simp; try (with_reducible rfl))
      try simp only [List.getElem_toArray, List.getElem_cons_succ, List.getElem_cons_zero, Act.put, List.setIfInBounds_toArray, List.set_cons_zero, List.set_cons_succ]
      refine' wpAnyH_take (i := 6) (oi := _) (v := _) rfl (by kernel_rfl) (by kernel_rfl) (by kernel_rfl) (fun _ _ _ h => h) (Or.inl ⟨by kernel_rfl, ?hyq180⟩) (by assumption) ?restq180
      case hyq180 => (intro w hSw; (try dsimp only at hSw); go_simp; try (with_reducible rfl))
      try simp only [List.getElem_toArray, List.getElem_cons_succ, List.getElem_cons_zero, Act.put, List.setIfInBounds_toArray, List.set_cons_zero, List.set_cons_succ]
      refine' wpAnyH_take (i := 7) (oi := _) (v := _) rfl (by kernel_rfl) (by kernel_rfl) (by kernel_rfl) (fun _ _ _ h => h) (Or.inl ⟨by kernel_rfl, ?hyq181⟩) (by assumption) ?restq181
      case hyq181 => (intro w hSw; (try dsimp only at hSw); go_simp; try (with_reducible rfl))
      try simp only [List.getElem_toArray, List.getElem_cons_succ, List.getElem_cons_zero, Act.put, List.setIfInBounds_toArray, List.set_cons_zero, List.set_cons_succ]
      refine' wpAnyH_take (i := 8) (oi := _) (v := _) rfl (by kernel_rfl) (by kernel_rfl) (by kernel_rfl) (fun _ _ _ h => h) (Or.inl ⟨by kernel_rfl, ?hyq182⟩) (by assumption) ?restq182
      case hyq182 => (intro w hSw; (try dsimp only at hSw); go_simp; try (with_reducible rfl))
      try simp only [List.getElem_toArray, List.getElem_cons_succ, List.getElem_cons_zero, Act.put, List.setIfInBounds_toArray, List.set_cons_zero, List.set_cons_succ]
      refine' wpAnyH_take (i := 9) (oi := _) (v := _) rfl (by kernel_rfl) (by kernel_rfl) (by kernel_rfl) (fun _ _ _ h => h) (Or.inl ⟨by kernel_rfl, ?hyq183⟩) (by assumption) ?restq183
      case hyq183 => (intro w hSw; (try dsimp only at hSw); go_simp; try (with_reducible rfl))
      try simp only [List.getElem_toArray, List.getElem_cons_succ, List.getElem_cons_zero, Act.put, List.setIfInBounds_toArray, List.set_cons_zero, List.set_cons_succ]
      refine' wpAnyH_take (i := 10) (oi := _) (v := _) rfl (by kernel_rfl) (by kernel_rfl) (by kernel_rfl) (fun _ _ _ h => h) (Or.inl ⟨by kernel_rfl, ?hyq184⟩) (by assumption) ?restq184
      case hyq184 => (intro w hSw; (try dsimp only at hSw); go_simp; try (with_reducible rfl))
      try simp only [List.getElem_toArray, List.getElem_cons_succ, List.getElem_cons_zero, Act.put, List.setIfInBounds_toArray, List.set_cons_zero, List.set_cons_succ]
      refine' wpAnyH_take (i := 11) (oi := _) (v := _) rfl (by kernel_rfl) (by kernel_rfl) (by kernel_rfl) (fun _ _ _ h => h) (Or.inl ⟨by kernel_rfl, ?hyq185⟩) (by assumption) ?restq185
      case hyq185 => (intro w hSw; (try dsimp only at hSw); go_simp; try (with_reducible rfl))
      try simp only [List.getElem_toArray, List.getElem_cons_succ, List.getElem_cons_zero, Act.put, List.setIfInBounds_toArray, List.set_cons_zero, List.set_cons_succ]
      refine' wpAnyH_take (i := 12) (oi := _) (v := _) rfl (by kernel_rfl) (by kernel_rfl) (by kernel_rfl) (fun _ _ _ h => h) (Or.inl ⟨by kernel_rfl, ?hyq186⟩) (by assumption) ?restq186
      case hyq186 => (intro w hSw; (try dsimp only at hSw); go_simp; try (with_reducible rfl))
      try simp only [List.getElem_toArray, List.getElem_cons_succ, List.getElem_cons_zero, Act.put, List.setIfInBounds_toArray, List.set_cons_zero, List.set_cons_succ]
      refine' wpAnyH_take (i := 14) (oi := _) (v := _) rfl (by kernel_rfl) (by kernel_rfl) (by kernel_rfl) (fun _ _ _ h => h) (Or.inl ⟨by kernel_rfl, ?hyq187⟩) (by assumption) ?restq187
      case hyq187 => (intro w hSw; (try dsimp only at hSw); go_simp; try (with_reducible rfl))
      try simp only [List.getElem_toArray, List.getElem_cons_succ, List.getElem_cons_zero, Act.put, List.setIfInBounds_toArray, List.set_cons_zero, List.set_cons_succ]
      refine wpAnyH_ready (rs := [13]) (by kernel_rfl) (by simp) ?_
      refine AllReadyH.cons (o := _) rfl (fun K hK => ?_) AllReadyH.nil
      go_simp
      refine (words_any _ _ _).mono ?_; rintro e wm ⟨rfl, hbk⟩; have HK := hid (show Below W24.heap.size W24 wm from (by first | exact btr HK.out hbk | exact btr (Below.drew (Below.refl _ _)) hbk)); clear hbk
      (try go_wp2_with fail)
      refine hK.out _ _ ?_ (fun hHeld => ?_)
      · (try dsimp only); (first | exact ⟨⟨Bx1.out.1, Bx1.out.2.1⟩, ⟨Bo.out.1, Bo.out.2.1⟩, ⟨Bg.out.1, Bg.out.2.1⟩, ⟨Ba.out.1, Ba.out.2.1⟩, Below.drew (Below.refl _ _)⟩ | (have hk := HK.out; exact ⟨⟨(Bx1.out.to hk).1, (Bx1.out.to hk).2.1⟩, ⟨(Bo.out.to hk).1, (Bo.out.to hk).2.1⟩, ⟨(Bg.out.to hk).1, (Bg.out.to hk).2.1⟩, ⟨(Ba.out.to hk).1, (Ba.out.to hk).2.1⟩, hk⟩))
      clear hK K
      try simp only [List.getElem_toArray, List.getElem_cons_succ, List.getElem_cons_zero, Act.put, List.setIfInBounds_toArray, List.set_cons_zero, List.set_cons_succ]
      refine wpAnyH_ready (rs := [15]) (by kernel_rfl) (by simp) ?_
      refine AllReadyH.cons (o := _) rfl (fun K hK => ?_) AllReadyH.nil
      go_simp
      refine (words_any _ _ _).mono ?_; rintro e wm ⟨rfl, hbk⟩; have HK := hid (show Below W24.heap.size W24 wm from (by first | exact btr HK.out hbk | exact btr (Below.drew (Below.refl _ _)) hbk)); clear hbk
      (try go_wp2_with fail)
      refine hK.out _ _ ?_ (fun hHeld => ?_)
      · (try dsimp only); (first | exact ⟨⟨Bx1.out.1, Bx1.out.2.1⟩, ⟨Bo.out.1, Bo.out.2.1⟩, ⟨Bg.out.1, Bg.out.2.1⟩, ⟨Ba.out.1, Ba.out.2.1⟩, Below.drew (Below.refl _ _)⟩ | (have hk := HK.out; exact ⟨⟨(Bx1.out.to hk).1, (Bx1.out.to hk).2.1⟩, ⟨(Bo.out.to hk).1, (Bo.out.to hk).2.1⟩, ⟨(Bg.out.to hk).1, (Bg.out.to hk).2.1⟩, ⟨(Ba.out.to hk).1, (Ba.out.to hk).2.1⟩, hk⟩))
      clear hK K
      try simp only [List.getElem_toArray, List.getElem_cons_succ, List.getElem_cons_zero, Act.put, List.setIfInBounds_toArray, List.set_cons_zero, List.set_cons_succ]
      refine' wpAnyH_take (i := 16) (oi := _) (v := _) rfl (by kernel_rfl) (by kernel_rfl) (by kernel_rfl) (fun _ _ _ h => h) (Or.inl ⟨by kernel_rfl, ?hyq188⟩) (by assumption) ?restq188
      case hyq188 => (intro w hSw; (try dsimp only at hSw); go_simp; try (with_reducible rfl))
      try simp only [List.getElem_toArray, List.getElem_cons_succ, List.getElem_cons_zero, Act.put, List.setIfInBounds_toArray, List.set_cons_zero, List.set_cons_succ]
      refine' wpAnyH_take (i := 17) (oi := _) (v := _) rfl (by kernel_rfl) (by kernel_rfl) (by kernel_rfl) (fun _ _ _ h => h) (Or.inl ⟨by kernel_rfl, ?hyq189⟩) (by assumption) ?restq189
      case hyq189 => (intro w hSw; (try dsimp only at hSw); go_simp; try (with_reducible rfl))
      try simp only [List.getElem_toArray, List.getElem_cons_succ, List.getElem_cons_zero, Act.put, List.setIfInBounds_toArray, List.set_cons_zero, List.set_cons_succ]
      refine' wpAnyH_take (i := 18) (oi := _) (v := _) rfl (by kernel_rfl) (by kernel_rfl) (by kernel_rfl) (fun _ _ _ h => h) (Or.inl ⟨by kernel_rfl, ?hyq190⟩) (by assumption) ?restq190
      case hyq190 => (intro w hSw; (try dsimp only at hSw); go_simp; try (with_reducible rfl))
      try simp only [List.getElem_toArray, List.getElem_cons_succ, List.getElem_cons_zero, Act.put, List.setIfInBounds_toArray, List.set_cons_zero, List.set_cons_succ]
      refine' wpAnyH_take (i := 19) (oi := _) (v := _) rfl (by kernel_rfl) (by kernel_rfl) (by kernel_rfl) (fun _ _ _ h => h) (Or.inl ⟨by kernel_rfl, ?hyq191⟩) (by assumption) ?restq191
      case hyq191 => (intro w hSw; (try dsimp only at hSw); go_simp; try (with_reducible rfl))
      try simp only [List.getElem_toArray, List.getElem_cons_succ, List.getElem_cons_zero, Act.put, List.setIfInBounds_toArray, List.set_cons_zero, List.set_cons_succ]
      refine' wpAnyH_take (i := 21) (oi := _) (v := _) rfl (by kernel_rfl) (by kernel_rfl) (by kernel_rfl) (fun _ _ _ h => h) (Or.inl ⟨by kernel_rfl, ?hyq192⟩) (by assumption) ?restq192
      case hyq192 => (intro w hSw; (try dsimp only at hSw); go_simp; try (with_reducible rfl))
      try simp only [List.getElem_toArray, List.getElem_cons_succ, List.getElem_cons_zero, Act.put, List.setIfInBounds_toArray, List.set_cons_zero, List.set_cons_succ]
      refine' wpAnyH_take (i := 23) (oi := _) (v := _) rfl (by kernel_rfl) (by kernel_rfl) (by kernel_rfl) (fun _ _ _ h => h) (Or.inl ⟨by kernel_rfl, ?hyq193⟩) (by assumption) ?restq193
      case hyq193 => (intro w hSw; (try dsimp only at hSw); go_simp; try (with_reducible rfl))
      try simp only [List.getElem_toArray, List.getElem_cons_succ, List.getElem_cons_zero, Act.put, List.setIfInBounds_toArray, List.set_cons_zero, List.set_cons_succ]
      refine' wpAnyH_take (i := 24) (oi := _) (v := _) rfl (by kernel_rfl) (by kernel_rfl) (by kernel_rfl) (fun _ _ _ h => h) (Or.inl ⟨by kernel_rfl, ?hyq194⟩) (by assumption) ?restq194
      case hyq194 => (intro w hSw; (try dsimp only at hSw); go_simp; try (with_reducible rfl))
      try simp only [List.getElem_toArray, List.getElem_cons_succ, List.getElem_cons_zero, Act.put, List.setIfInBounds_toArray, List.set_cons_zero, List.set_cons_succ]
      refine wpAnyH_ready (rs := [20]) (by kernel_rfl) (by simp) ?_
      refine AllReadyH.cons (o := _) rfl (fun K hK => ?_) AllReadyH.nil
      go_simp
      refine (words_any _ _ _).mono ?_; rintro e wm ⟨rfl, hbk⟩; have HK := hid (show Below W24.heap.size W24 wm from (by first | exact btr HK.out hbk | exact btr (Below.drew (Below.refl _ _)) hbk)); clear hbk
      (try go_wp2_with fail)
      refine hK.out _ _ ?_ (fun hHeld => ?_)
      · (try dsimp only); (first | exact ⟨⟨Bx1.out.1, Bx1.out.2.1⟩, ⟨Bo.out.1, Bo.out.2.1⟩, ⟨Bg.out.1, Bg.out.2.1⟩, ⟨Ba.out.1, Ba.out.2.1⟩, Below.drew (Below.refl _ _)⟩ | (have hk := HK.out; exact ⟨⟨(Bx1.out.to hk).1, (Bx1.out.to hk).2.1⟩, ⟨(Bo.out.to hk).1, (Bo.out.to hk).2.1⟩, ⟨(Bg.out.to hk).1, (Bg.out.to hk).2.1⟩, ⟨(Ba.out.to hk).1, (Ba.out.to hk).2.1⟩, hk⟩))
      clear hK K
      try simp only [List.getElem_toArray, List.getElem_cons_succ, List.getElem_cons_zero, Act.put, List.setIfInBounds_toArray, List.set_cons_zero, List.set_cons_succ]
      refine' wpAnyH_take (i := 22) (oi := _) (v := _) rfl (by kernel_rfl) (by kernel_rfl) (by kernel_rfl) (fun _ _ _ h => h) (Or.inl ⟨by kernel_rfl, ?hyq195⟩) (by assumption) ?restq195
      case hyq195 => (intro w hSw; (try dsimp only at hSw); go_simp; try (with_reducible rfl))
      try simp only [List.getElem_toArray, List.getElem_cons_succ, List.getElem_cons_zero, Act.put, List.setIfInBounds_toArray, List.set_cons_zero, List.set_cons_succ]
      refine' wpAnyH_take (i := 25) (oi := _) (v := _) rfl (by kernel_rfl) (by kernel_rfl) (by kernel_rfl) (fun _ _ _ h => h) (Or.inl ⟨by kernel_rfl, ?hyq196⟩) (by assumption) ?restq196
      case hyq196 => (intro w hSw; (try dsimp only at hSw); go_simp; try (with_reducible rfl))
      try simp only [List.getElem_toArray, List.getElem_cons_succ, List.getElem_cons_zero, Act.put, List.setIfInBounds_toArray, List.set_cons_zero, List.set_cons_succ]
      refine' wpAnyH_take (i := 26) (oi := _) (v := undef) rfl (by kernel_rfl) (by kernel_rfl) (by kernel_rfl) (fun _ _ _ h => h) (Or.inr ⟨by kernel_rfl, rfl⟩) (by assumption) ?restq197
      try simp only [List.getElem_toArray, List.getElem_cons_succ, List.getElem_cons_zero, Act.put, List.setIfInBounds_toArray, List.set_cons_zero, List.set_cons_succ]
      refine' wpAnyH_take (i := 27) (oi := _) (v := undef) rfl (by kernel_rfl) (by kernel_rfl) (by kernel_rfl) (fun _ _ _ h => h) (Or.inr ⟨by kernel_rfl, rfl⟩) (by assumption) ?restq198
      try simp only [List.getElem_toArray, List.getElem_cons_succ, List.getElem_cons_zero, Act.put, List.setIfInBounds_toArray, List.set_cons_zero, List.set_cons_succ]
      refine' wpAnyH_take (i := 28) (oi := _) (v := undef) rfl (by kernel_rfl) (by kernel_rfl) (by kernel_rfl) (fun _ _ _ h => h) (Or.inr ⟨by kernel_rfl, rfl⟩) (by assumption) ?restq199
      try simp only [List.getElem_toArray, List.getElem_cons_succ, List.getElem_cons_zero, Act.put, List.setIfInBounds_toArray, List.set_cons_zero, List.set_cons_succ]
      refine' wpAnyH_take (i := 29) (oi := _) (v := _) rfl (by kernel_rfl) (by kernel_rfl) (by kernel_rfl) (fun _ _ _ h => h) (Or.inl ⟨by kernel_rfl, ?hyq200⟩) (by assumption) ?restq200
      case hyq200 => (intro w hSw; (try dsimp only at hSw); go_simp; try (with_reducible rfl))
      try simp only [List.getElem_toArray, List.getElem_cons_succ, List.getElem_cons_zero, Act.put, List.setIfInBounds_toArray, List.set_cons_zero, List.set_cons_succ]
      refine' wpAnyH_take (i := 30) (oi := _) (v := _) rfl (by kernel_rfl) (by kernel_rfl) (by kernel_rfl) (fun _ _ _ h => h) (Or.inl ⟨by kernel_rfl, ?hyq201⟩) (by assumption) ?restq201
      case hyq201 => (intro w hSw; (try dsimp only at hSw); go_simp; try (with_reducible rfl))
      try simp only [List.getElem_toArray, List.getElem_cons_succ, List.getElem_cons_zero, Act.put, List.setIfInBounds_toArray, List.set_cons_zero, List.set_cons_succ]
      refine' wpAnyH_take (i := 31) (oi := _) (v := _) rfl (by kernel_rfl) (by kernel_rfl) (by kernel_rfl) (fun _ _ _ h => h) (Or.inl ⟨by kernel_rfl, ?hyq202⟩) (by assumption) ?restq202
      case hyq202 => (intro w hSw; (try dsimp only at hSw); go_simp; try (with_reducible rfl))
      try simp only [List.getElem_toArray, List.getElem_cons_succ, List.getElem_cons_zero, Act.put, List.setIfInBounds_toArray, List.set_cons_zero, List.set_cons_succ]
      refine' wpAnyH_take (i := 32) (oi := _) (v := _) rfl (by kernel_rfl) (by kernel_rfl) (by kernel_rfl) (fun _ _ _ h => h) (Or.inl ⟨by kernel_rfl, ?hyq203⟩) (by assumption) ?restq203
      case hyq203 => (intro w hSw; (try dsimp only at hSw); go_simp; try (with_reducible rfl))
      try simp only [List.getElem_toArray, List.getElem_cons_succ, List.getElem_cons_zero, Act.put, List.setIfInBounds_toArray, List.set_cons_zero, List.set_cons_succ]
      refine wpAnyH_done (by kernel_rfl) ?_ _
      all_goals
        go_wp2
        exact bodyPost_ret (v := .bool true) (by simp [results, Try.results4, go_sem]) rfl ⟨rfl, btr L23.out HK.out⟩
    ·
      subst h4; subst h1 h2 h3
      first | skip; go_region_held3 (fun w' => (w'.cell? ⟨w1.heap.size, 0, none⟩ = some (.int .u64 (hiW 0)) ∧ w'.cell? ⟨w1.heap.size, 1, none⟩ = some (.int .u64 (loW 0))) ∧ (w'.cell? ⟨wl.heap.size, 0, none⟩ = some (.int .u64 (hiW 0)) ∧ w'.cell? ⟨wl.heap.size, 1, none⟩ = some (.int .u64 (loW 0))) ∧ (w'.cell? ⟨w23.heap.size, 0, none⟩ = some (.int .u64 (hiW 0)) ∧ w'.cell? ⟨w23.heap.size, 1, none⟩ = some (.int .u64 (loW 0))) ∧ (w'.cell? ⟨w.heap.size, 0, none⟩ = some (.int .u64 9223372036854775808) ∧ w'.cell? ⟨w.heap.size, 1, none⟩ = some (.int .u64 0)) ∧ Below W24.heap.size W24 w') (first | exact ⟨⟨Bx1.out.1, Bx1.out.2.1⟩, ⟨Bo.out.1, Bo.out.2.1⟩, ⟨Bg.out.1, Bg.out.2.1⟩, ⟨Ba.out.1, Ba.out.2.1⟩, Below.drew (Below.refl _ _)⟩ | (have hk := HK.out; exact ⟨⟨(Bx1.out.to hk).1, (Bx1.out.to hk).2.1⟩, ⟨(Bo.out.to hk).1, (Bo.out.to hk).2.1⟩, ⟨(Bg.out.to hk).1, (Bg.out.to hk).2.1⟩, ⟨(Ba.out.to hk).1, (Ba.out.to hk).2.1⟩, hk⟩))
        (first
        | (go_at_call 10; refine (words_any _ _ _).mono ?_; rintro e wm ⟨rfl, hbk⟩; have HK := hid (show Below W24.heap.size W24 wm from (by first | exact btr HK.out hbk | exact btr (Below.drew (Below.refl _ _)) hbk)); clear hbk)
        | (go_at_call 13; refine (sign_any 0 _ (by unfold Amt; omega)).mono ?_; rintro e wm ⟨rfl, hbk⟩; have HK := hid (show Below W24.heap.size W24 wm from (by first | exact btr HK.out hbk | exact btr (Below.drew (Below.refl _ _)) hbk)); clear hbk))
            | fail "held"
      all_goals
        go_wp2
        exact bodyPost_ret (v := .bool true) (by simp [results, Try.results4, go_sem]) rfl ⟨rfl, btr L23.out HK.out⟩
  ·
    go_wp2_with fail
    refine (text_walk x _ hx.out).mono ?_
    rintro e w22 ⟨⟨xs, hxs, rfl⟩, hb⟩
    have M22 := hid (show Below wk.heap.size wk w22 from (by refine btr ?_ hb; repeat (first | exact HK.out | exact Below.refl _ _ | refine bal ?_ _ | refine Below.setCell ?_ (by dsimp only; omega) _ | refine Below.drew ?_)))
    first | have Bo := hid ((two_bx T.out 0).to hb) | have Bo := hid ((bx_new wl (hiW 0) (loW 0) 33).to hb)
    have L22 := hid (btr L20.out M22.out)
    have Ba := hid (Ba.out.to M22.out)
    have Bx1 := hid (Bx1.out.to M22.out)
    clear hb HK M22 L20 x0 x1 x2
    try clear T t0 t1 t2 t3
    go_wp2_with fail
    refine (FP.out xs _ hxs).mono ?_
    rintro e w23 ⟨rfl, hb⟩
    have L23 := hid (bal (btr L22.out hb) (.cells #[.int .u64 (hiW x), .int .u64 (loW x)] 33))
    have Ba := hid ((Ba.out.to hb).alloc (.cells #[.int .u64 (hiW x), .int .u64 (loW x)] 33))
    have Bx1 := hid ((Bx1.out.to hb).alloc (.cells #[.int .u64 (hiW x), .int .u64 (loW x)] 33))
    have Bo := hid ((Bo.out.to hb).alloc (.cells #[.int .u64 (hiW x), .int .u64 (loW x)] 33))
    have Bg := hid (bx_new w23 (hiW x) (loW x) 33)
    clear hb L22
    unfold mv
    go_wp2
    obtain ⟨W24, hW24⟩ : ∃ W, w23.alloc (.cells #[.int .u64 (hiW x), .int .u64 (loW x)] 33) = W := ⟨_, rfl⟩
    rw [hW24] at Ba Bx1 Bo Bg L23 ⊢
    clear hW24
    have z1 : sgn 0 = 0 := rfl
    have z2 : hiW 0 = 0 := rfl
    have z3 : loW 0 = 0 := rfl
    clear fa fb fc hE
    rcases hA with ⟨h1, h2, h3⟩ | ⟨h1, h2, h3, h4⟩
    ·
      subst h1 h2 h3
      refine wp_region_held_drew (S := (fun w' => (w'.cell? ⟨w1.heap.size, 0, none⟩ = some (.int .u64 (hiW x)) ∧ w'.cell? ⟨w1.heap.size, 1, none⟩ = some (.int .u64 (loW x))) ∧ (w'.cell? ⟨wn.heap.size, 0, none⟩ = some (.int .u64 (hiW 0)) ∧ w'.cell? ⟨wn.heap.size, 1, none⟩ = some (.int .u64 (loW 0))) ∧ (w'.cell? ⟨w23.heap.size, 0, none⟩ = some (.int .u64 (hiW x)) ∧ w'.cell? ⟨w23.heap.size, 1, none⟩ = some (.int .u64 (loW x))) ∧ (w'.cell? ⟨w.heap.size, 0, none⟩ = some (.int .u64 (hiW x)) ∧ w'.cell? ⟨w.heap.size, 1, none⟩ = some (.int .u64 (loW x))) ∧ Below W24.heap.size W24 w')) (by kernel_rfl) ?_ (fun hHeld => ?_)
      · (try dsimp only); (first | exact ⟨⟨Bx1.out.1, Bx1.out.2.1⟩, ⟨Bo.out.1, Bo.out.2.1⟩, ⟨Bg.out.1, Bg.out.2.1⟩, ⟨Ba.out.1, Ba.out.2.1⟩, Below.drew (Below.refl _ _)⟩ | (have hk := HK.out; exact ⟨⟨(Bx1.out.to hk).1, (Bx1.out.to hk).2.1⟩, ⟨(Bo.out.to hk).1, (Bo.out.to hk).2.1⟩, ⟨(Bg.out.to hk).1, (Bg.out.to hk).2.1⟩, ⟨(Ba.out.to hk).1, (Ba.out.to hk).2.1⟩, hk⟩))
      refine' wpAnyH_take (i := 0) (oi := _) (v := _) rfl (by kernel_rfl) (by kernel_rfl) (by kernel_rfl) (fun _ _ _ h => h) (Or.inl ⟨by kernel_rfl, ?hyq204⟩) (by assumption) ?restq204
      case hyq204 => (intro w hSw; (try dsimp only at hSw); go_simp; try (with_reducible rfl))
      try simp only [List.getElem_toArray, List.getElem_cons_succ, List.getElem_cons_zero, Act.put, List.setIfInBounds_toArray, List.set_cons_zero, List.set_cons_succ]
      refine' wpAnyH_take (i := 1) (oi := _) (v := _) rfl (by kernel_rfl) (by kernel_rfl) (by kernel_rfl) (fun _ _ _ h => h) (Or.inl ⟨by kernel_rfl, ?hyq205⟩) (by assumption) ?restq205
      case hyq205 => (intro w hSw; (try dsimp only at hSw); go_simp; try (with_reducible rfl))
      try simp only [List.getElem_toArray, List.getElem_cons_succ, List.getElem_cons_zero, Act.put, List.setIfInBounds_toArray, List.set_cons_zero, List.set_cons_succ]
      refine' wpAnyH_take (i := 2) (oi := _) (v := _) rfl (by kernel_rfl) (by kernel_rfl) (by kernel_rfl) (fun _ _ _ h => h) (Or.inl ⟨by kernel_rfl, ?hyq206⟩) (by assumption) ?restq206
      case hyq206 => (intro w hSw; (try dsimp only at hSw); go_simp; try (with_reducible rfl))
      try simp only [List.getElem_toArray, List.getElem_cons_succ, List.getElem_cons_zero, Act.put, List.setIfInBounds_toArray, List.set_cons_zero, List.set_cons_succ]
      refine' wpAnyH_take (i := 3) (oi := _) (v := _) rfl (by kernel_rfl) (by kernel_rfl) (by kernel_rfl) (fun _ _ _ h => h) (Or.inl ⟨by kernel_rfl, ?hyq207⟩) (by assumption) ?restq207
      case hyq207 => (intro w hSw; (try dsimp only at hSw); go_simp; try (with_reducible rfl))
      try simp only [List.getElem_toArray, List.getElem_cons_succ, List.getElem_cons_zero, Act.put, List.setIfInBounds_toArray, List.set_cons_zero, List.set_cons_succ]
      refine wpAnyH_ready (rs := [4]) (by kernel_rfl) (by simp) ?_
      refine AllReadyH.cons (o := _) rfl (fun K hK => ?_) AllReadyH.nil
      go_simp
      refine (sign_any 0 _ (by unfold Amt; omega)).mono ?_; rintro e wm ⟨rfl, hbk⟩; have HK := hid (show Below W24.heap.size W24 wm from (by first | exact btr HK.out hbk | exact btr (Below.drew (Below.refl _ _)) hbk)); clear hbk
      (try go_wp2_with fail)
      refine hK.out _ _ ?_ (fun hHeld => ?_)
      · (try dsimp only); (first | exact ⟨⟨Bx1.out.1, Bx1.out.2.1⟩, ⟨Bo.out.1, Bo.out.2.1⟩, ⟨Bg.out.1, Bg.out.2.1⟩, ⟨Ba.out.1, Ba.out.2.1⟩, Below.drew (Below.refl _ _)⟩ | (have hk := HK.out; exact ⟨⟨(Bx1.out.to hk).1, (Bx1.out.to hk).2.1⟩, ⟨(Bo.out.to hk).1, (Bo.out.to hk).2.1⟩, ⟨(Bg.out.to hk).1, (Bg.out.to hk).2.1⟩, ⟨(Ba.out.to hk).1, (Ba.out.to hk).2.1⟩, hk⟩))
      clear hK K
      try simp only [List.getElem_toArray, List.getElem_cons_succ, List.getElem_cons_zero, Act.put, List.setIfInBounds_toArray, List.set_cons_zero, List.set_cons_succ]
      refine' wpAnyH_take (i := 5) (oi := _) (v := _) rfl (by kernel_rfl) (by kernel_rfl) (by kernel_rfl) (fun _ _ _ h => h) (Or.inl ⟨by kernel_rfl, ?hyq208⟩) (by assumption) ?restq208
      case hyq208 => (intro w hSw; (try dsimp only at hSw); go_simp; try (with_reducible rfl))
      try simp only [List.getElem_toArray, List.getElem_cons_succ, List.getElem_cons_zero, Act.put, List.setIfInBounds_toArray, List.set_cons_zero, List.set_cons_succ]
      refine' wpAnyH_take (i := 6) (oi := _) (v := _) rfl (by kernel_rfl) (by kernel_rfl) (by kernel_rfl) (fun _ _ _ h => h) (Or.inl ⟨by kernel_rfl, ?hyq209⟩) (by assumption) ?restq209
      case hyq209 => (intro w hSw; (try dsimp only at hSw); go_simp; try (with_reducible rfl))
      try simp only [List.getElem_toArray, List.getElem_cons_succ, List.getElem_cons_zero, Act.put, List.setIfInBounds_toArray, List.set_cons_zero, List.set_cons_succ]
      refine' wpAnyH_take (i := 7) (oi := _) (v := _) rfl (by kernel_rfl) (by kernel_rfl) (by kernel_rfl) (fun _ _ _ h => h) (Or.inl ⟨by kernel_rfl, ?hyq210⟩) (by assumption) ?restq210
      case hyq210 => (intro w hSw; (try dsimp only at hSw); go_simp; try (with_reducible rfl))
      try simp only [List.getElem_toArray, List.getElem_cons_succ, List.getElem_cons_zero, Act.put, List.setIfInBounds_toArray, List.set_cons_zero, List.set_cons_succ]
      refine' wpAnyH_take (i := 8) (oi := _) (v := _) rfl (by kernel_rfl) (by kernel_rfl) (by kernel_rfl) (fun _ _ _ h => h) (Or.inl ⟨by kernel_rfl, ?hyq211⟩) (by assumption) ?restq211
      case hyq211 => (intro w hSw; (try dsimp only at hSw); go_simp; try (with_reducible rfl))
      try simp only [List.getElem_toArray, List.getElem_cons_succ, List.getElem_cons_zero, Act.put, List.setIfInBounds_toArray, List.set_cons_zero, List.set_cons_succ]
      refine' wpAnyH_take (i := 9) (oi := _) (v := _) rfl (by kernel_rfl) (by kernel_rfl) (by kernel_rfl) (fun _ _ _ h => h) (Or.inl ⟨by kernel_rfl, ?hyq212⟩) (by assumption) ?restq212
      case hyq212 => (intro w hSw; (try dsimp only at hSw); go_simp; try (with_reducible rfl))
      try simp only [List.getElem_toArray, List.getElem_cons_succ, List.getElem_cons_zero, Act.put, List.setIfInBounds_toArray, List.set_cons_zero, List.set_cons_succ]
      refine' wpAnyH_take (i := 10) (oi := _) (v := _) rfl (by kernel_rfl) (by kernel_rfl) (by kernel_rfl) (fun _ _ _ h => h) (Or.inl ⟨by kernel_rfl, ?hyq213⟩) (by assumption) ?restq213
      case hyq213 => (intro w hSw; (try dsimp only at hSw); go_simp; try (with_reducible rfl))
      try simp only [List.getElem_toArray, List.getElem_cons_succ, List.getElem_cons_zero, Act.put, List.setIfInBounds_toArray, List.set_cons_zero, List.set_cons_succ]
      refine' wpAnyH_take (i := 11) (oi := _) (v := _) rfl (by kernel_rfl) (by kernel_rfl) (by kernel_rfl) (fun _ _ _ h => h) (Or.inl ⟨by kernel_rfl, ?hyq214⟩) (by assumption) ?restq214
      case hyq214 => (intro w hSw; (try dsimp only at hSw); go_simp; try (with_reducible rfl))
      try simp only [List.getElem_toArray, List.getElem_cons_succ, List.getElem_cons_zero, Act.put, List.setIfInBounds_toArray, List.set_cons_zero, List.set_cons_succ]
      refine' wpAnyH_take (i := 12) (oi := _) (v := _) rfl (by kernel_rfl) (by kernel_rfl) (by kernel_rfl) (fun _ _ _ h => h) (Or.inl ⟨by kernel_rfl, ?hyq215⟩) (by assumption) ?restq215
      case hyq215 => (intro w hSw; (try dsimp only at hSw); go_simp; try (with_reducible rfl))
      try simp only [List.getElem_toArray, List.getElem_cons_succ, List.getElem_cons_zero, Act.put, List.setIfInBounds_toArray, List.set_cons_zero, List.set_cons_succ]
      refine' wpAnyH_take (i := 14) (oi := _) (v := _) rfl (by kernel_rfl) (by kernel_rfl) (by kernel_rfl) (fun _ _ _ h => h) (Or.inl ⟨by kernel_rfl, ?hyq216⟩) (by assumption) ?restq216
      case hyq216 => (intro w hSw; (try dsimp only at hSw); go_simp; try (with_reducible rfl))
      try simp only [List.getElem_toArray, List.getElem_cons_succ, List.getElem_cons_zero, Act.put, List.setIfInBounds_toArray, List.set_cons_zero, List.set_cons_succ]
      refine wpAnyH_ready (rs := [13]) (by kernel_rfl) (by simp) ?_
      refine AllReadyH.cons (o := _) rfl (fun K hK => ?_) AllReadyH.nil
      go_simp
      refine (words_any _ _ _).mono ?_; rintro e wm ⟨rfl, hbk⟩; have HK := hid (show Below W24.heap.size W24 wm from (by first | exact btr HK.out hbk | exact btr (Below.drew (Below.refl _ _)) hbk)); clear hbk
      (try go_wp2_with fail)
      refine hK.out _ _ ?_ (fun hHeld => ?_)
      · (try dsimp only); (first | exact ⟨⟨Bx1.out.1, Bx1.out.2.1⟩, ⟨Bo.out.1, Bo.out.2.1⟩, ⟨Bg.out.1, Bg.out.2.1⟩, ⟨Ba.out.1, Ba.out.2.1⟩, Below.drew (Below.refl _ _)⟩ | (have hk := HK.out; exact ⟨⟨(Bx1.out.to hk).1, (Bx1.out.to hk).2.1⟩, ⟨(Bo.out.to hk).1, (Bo.out.to hk).2.1⟩, ⟨(Bg.out.to hk).1, (Bg.out.to hk).2.1⟩, ⟨(Ba.out.to hk).1, (Ba.out.to hk).2.1⟩, hk⟩))
      clear hK K
      try simp only [List.getElem_toArray, List.getElem_cons_succ, List.getElem_cons_zero, Act.put, List.setIfInBounds_toArray, List.set_cons_zero, List.set_cons_succ]
      refine wpAnyH_ready (rs := [15]) (by kernel_rfl) (by simp) ?_
      refine AllReadyH.cons (o := _) rfl (fun K hK => ?_) AllReadyH.nil
      go_simp
      refine (words_any _ _ _).mono ?_; rintro e wm ⟨rfl, hbk⟩; have HK := hid (show Below W24.heap.size W24 wm from (by first | exact btr HK.out hbk | exact btr (Below.drew (Below.refl _ _)) hbk)); clear hbk
      (try go_wp2_with fail)
      refine hK.out _ _ ?_ (fun hHeld => ?_)
      · (try dsimp only); (first | exact ⟨⟨Bx1.out.1, Bx1.out.2.1⟩, ⟨Bo.out.1, Bo.out.2.1⟩, ⟨Bg.out.1, Bg.out.2.1⟩, ⟨Ba.out.1, Ba.out.2.1⟩, Below.drew (Below.refl _ _)⟩ | (have hk := HK.out; exact ⟨⟨(Bx1.out.to hk).1, (Bx1.out.to hk).2.1⟩, ⟨(Bo.out.to hk).1, (Bo.out.to hk).2.1⟩, ⟨(Bg.out.to hk).1, (Bg.out.to hk).2.1⟩, ⟨(Ba.out.to hk).1, (Ba.out.to hk).2.1⟩, hk⟩))
      clear hK K
      try simp only [List.getElem_toArray, List.getElem_cons_succ, List.getElem_cons_zero, Act.put, List.setIfInBounds_toArray, List.set_cons_zero, List.set_cons_succ]
      refine' wpAnyH_take (i := 16) (oi := _) (v := _) rfl (by kernel_rfl) (by kernel_rfl) (by kernel_rfl) (fun _ _ _ h => h) (Or.inl ⟨by kernel_rfl, ?hyq217⟩) (by assumption) ?restq217
      case hyq217 => (intro w hSw; (try dsimp only at hSw); go_simp; try (with_reducible rfl))
      try simp only [List.getElem_toArray, List.getElem_cons_succ, List.getElem_cons_zero, Act.put, List.setIfInBounds_toArray, List.set_cons_zero, List.set_cons_succ]
      refine' wpAnyH_take (i := 17) (oi := _) (v := _) rfl (by kernel_rfl) (by kernel_rfl) (by kernel_rfl) (fun _ _ _ h => h) (Or.inl ⟨by kernel_rfl, ?hyq218⟩) (by assumption) ?restq218
      case hyq218 => (intro w hSw; (try dsimp only at hSw); go_simp; try (with_reducible rfl))
      try simp only [List.getElem_toArray, List.getElem_cons_succ, List.getElem_cons_zero, Act.put, List.setIfInBounds_toArray, List.set_cons_zero, List.set_cons_succ]
      refine' wpAnyH_take (i := 18) (oi := _) (v := _) rfl (by kernel_rfl) (by kernel_rfl) (by kernel_rfl) (fun _ _ _ h => h) (Or.inl ⟨by kernel_rfl, ?hyq219⟩) (by assumption) ?restq219
      case hyq219 => (intro w hSw; (try dsimp only at hSw); go_simp; try (with_reducible rfl))
      try simp only [List.getElem_toArray, List.getElem_cons_succ, List.getElem_cons_zero, Act.put, List.setIfInBounds_toArray, List.set_cons_zero, List.set_cons_succ]
      refine' wpAnyH_take (i := 19) (oi := _) (v := _) rfl (by kernel_rfl) (by kernel_rfl) (by kernel_rfl) (fun _ _ _ h => h) (Or.inl ⟨by kernel_rfl, ?hyq220⟩) (by assumption) ?restq220
      case hyq220 => (intro w hSw; (try dsimp only at hSw); go_simp; try (with_reducible rfl))
      try simp only [List.getElem_toArray, List.getElem_cons_succ, List.getElem_cons_zero, Act.put, List.setIfInBounds_toArray, List.set_cons_zero, List.set_cons_succ]
      refine' wpAnyH_take (i := 21) (oi := _) (v := _) rfl (by kernel_rfl) (by kernel_rfl) (by kernel_rfl) (fun _ _ _ h => h) (Or.inl ⟨by kernel_rfl, ?hyq221⟩) (by assumption) ?restq221
      case hyq221 => (intro w hSw; (try dsimp only at hSw); go_simp; try (with_reducible rfl))
      try simp only [List.getElem_toArray, List.getElem_cons_succ, List.getElem_cons_zero, Act.put, List.setIfInBounds_toArray, List.set_cons_zero, List.set_cons_succ]
      refine' wpAnyH_take (i := 23) (oi := _) (v := _) rfl (by kernel_rfl) (by kernel_rfl) (by kernel_rfl) (fun _ _ _ h => h) (Or.inl ⟨by kernel_rfl, ?hyq222⟩) (by assumption) ?restq222
      case hyq222 => (intro w hSw; (try dsimp only at hSw); go_simp; try (with_reducible rfl))
      try simp only [List.getElem_toArray, List.getElem_cons_succ, List.getElem_cons_zero, Act.put, List.setIfInBounds_toArray, List.set_cons_zero, List.set_cons_succ]
      refine' wpAnyH_take (i := 24) (oi := _) (v := _) rfl (by kernel_rfl) (by kernel_rfl) (by kernel_rfl) (fun _ _ _ h => h) (Or.inl ⟨by kernel_rfl, ?hyq223⟩) (by assumption) ?restq223
      case hyq223 => (intro w hSw; (try dsimp only at hSw); go_simp; try (with_reducible rfl))
      try simp only [List.getElem_toArray, List.getElem_cons_succ, List.getElem_cons_zero, Act.put, List.setIfInBounds_toArray, List.set_cons_zero, List.set_cons_succ]
      refine wpAnyH_ready (rs := [20]) (by kernel_rfl) (by simp) ?_
      refine AllReadyH.cons (o := _) rfl (fun K hK => ?_) AllReadyH.nil
      go_simp
      refine (words_any _ _ _).mono ?_; rintro e wm ⟨rfl, hbk⟩; have HK := hid (show Below W24.heap.size W24 wm from (by first | exact btr HK.out hbk | exact btr (Below.drew (Below.refl _ _)) hbk)); clear hbk
      (try go_wp2_with fail)
      refine hK.out _ _ ?_ (fun hHeld => ?_)
      · (try dsimp only); (first | exact ⟨⟨Bx1.out.1, Bx1.out.2.1⟩, ⟨Bo.out.1, Bo.out.2.1⟩, ⟨Bg.out.1, Bg.out.2.1⟩, ⟨Ba.out.1, Ba.out.2.1⟩, Below.drew (Below.refl _ _)⟩ | (have hk := HK.out; exact ⟨⟨(Bx1.out.to hk).1, (Bx1.out.to hk).2.1⟩, ⟨(Bo.out.to hk).1, (Bo.out.to hk).2.1⟩, ⟨(Bg.out.to hk).1, (Bg.out.to hk).2.1⟩, ⟨(Ba.out.to hk).1, (Ba.out.to hk).2.1⟩, hk⟩))
      clear hK K
      try simp only [List.getElem_toArray, List.getElem_cons_succ, List.getElem_cons_zero, Act.put, List.setIfInBounds_toArray, List.set_cons_zero, List.set_cons_succ]
      refine' wpAnyH_take (i := 22) (oi := _) (v := _) rfl (by kernel_rfl) (by kernel_rfl) (by kernel_rfl) (fun _ _ _ h => h) (Or.inl ⟨by kernel_rfl, ?hyq224⟩) (by assumption) ?restq224
      case hyq224 => (intro w hSw; (try dsimp only at hSw); go_simp; try (with_reducible rfl))
      try simp only [List.getElem_toArray, List.getElem_cons_succ, List.getElem_cons_zero, Act.put, List.setIfInBounds_toArray, List.set_cons_zero, List.set_cons_succ]
      refine' wpAnyH_take (i := 25) (oi := _) (v := _) rfl (by kernel_rfl) (by kernel_rfl) (by kernel_rfl) (fun _ _ _ h => h) (Or.inl ⟨by kernel_rfl, ?hyq225⟩) (by assumption) ?restq225
      case hyq225 => (intro w hSw; (try dsimp only at hSw); go_simp; try (with_reducible rfl))
      try simp only [List.getElem_toArray, List.getElem_cons_succ, List.getElem_cons_zero, Act.put, List.setIfInBounds_toArray, List.set_cons_zero, List.set_cons_succ]
      refine' wpAnyH_take (i := 26) (oi := _) (v := undef) rfl (by kernel_rfl) (by kernel_rfl) (by kernel_rfl) (fun _ _ _ h => h) (Or.inr ⟨by kernel_rfl, rfl⟩) (by assumption) ?restq226
      try simp only [List.getElem_toArray, List.getElem_cons_succ, List.getElem_cons_zero, Act.put, List.setIfInBounds_toArray, List.set_cons_zero, List.set_cons_succ]
      refine' wpAnyH_take (i := 27) (oi := _) (v := undef) rfl (by kernel_rfl) (by kernel_rfl) (by kernel_rfl) (fun _ _ _ h => h) (Or.inr ⟨by kernel_rfl, rfl⟩) (by assumption) ?restq227
      try simp only [List.getElem_toArray, List.getElem_cons_succ, List.getElem_cons_zero, Act.put, List.setIfInBounds_toArray, List.set_cons_zero, List.set_cons_succ]
      refine' wpAnyH_take (i := 28) (oi := _) (v := undef) rfl (by kernel_rfl) (by kernel_rfl) (by kernel_rfl) (fun _ _ _ h => h) (Or.inr ⟨by kernel_rfl, rfl⟩) (by assumption) ?restq228
      try simp only [List.getElem_toArray, List.getElem_cons_succ, List.getElem_cons_zero, Act.put, List.setIfInBounds_toArray, List.set_cons_zero, List.set_cons_succ]
      refine' wpAnyH_take (i := 29) (oi := _) (v := _) rfl (by kernel_rfl) (by kernel_rfl) (by kernel_rfl) (fun _ _ _ h => h) (Or.inl ⟨by kernel_rfl, ?hyq229⟩) (by assumption) ?restq229
      case hyq229 => (intro w hSw; (try dsimp only at hSw); go_simp; try (with_reducible rfl))
      try simp only [List.getElem_toArray, List.getElem_cons_succ, List.getElem_cons_zero, Act.put, List.setIfInBounds_toArray, List.set_cons_zero, List.set_cons_succ]
      refine' wpAnyH_take (i := 30) (oi := _) (v := _) rfl (by kernel_rfl) (by kernel_rfl) (by kernel_rfl) (fun _ _ _ h => h) (Or.inl ⟨by kernel_rfl, ?hyq230⟩) (by assumption) ?restq230
      case hyq230 => (intro w hSw; (try dsimp only at hSw); go_simp; try (with_reducible rfl))
      try simp only [List.getElem_toArray, List.getElem_cons_succ, List.getElem_cons_zero, Act.put, List.setIfInBounds_toArray, List.set_cons_zero, List.set_cons_succ]
      refine' wpAnyH_take (i := 31) (oi := _) (v := _) rfl (by kernel_rfl) (by kernel_rfl) (by kernel_rfl) (fun _ _ _ h => h) (Or.inl ⟨by kernel_rfl, ?hyq231⟩) (by assumption) ?restq231
      case hyq231 => (intro w hSw; (try dsimp only at hSw); go_simp; try (with_reducible rfl))
      try simp only [List.getElem_toArray, List.getElem_cons_succ, List.getElem_cons_zero, Act.put, List.setIfInBounds_toArray, List.set_cons_zero, List.set_cons_succ]
      refine' wpAnyH_take (i := 32) (oi := _) (v := _) rfl (by kernel_rfl) (by kernel_rfl) (by kernel_rfl) (fun _ _ _ h => h) (Or.inl ⟨by kernel_rfl, ?hyq232⟩) (by assumption) ?restq232
      case hyq232 => (intro w hSw; (try dsimp only at hSw); go_simp; try (with_reducible rfl))
      try simp only [List.getElem_toArray, List.getElem_cons_succ, List.getElem_cons_zero, Act.put, List.setIfInBounds_toArray, List.set_cons_zero, List.set_cons_succ]
      refine wpAnyH_done (by kernel_rfl) ?_ _
      all_goals
        go_wp2
        exact bodyPost_ret (v := .bool true) (by simp [results, Try.results4, go_sem]) rfl ⟨rfl, btr L23.out HK.out⟩
    ·
      subst h4; subst h1 h2 h3
      first | skip; go_region_held3 (fun w' => (w'.cell? ⟨w1.heap.size, 0, none⟩ = some (.int .u64 (hiW 0)) ∧ w'.cell? ⟨w1.heap.size, 1, none⟩ = some (.int .u64 (loW 0))) ∧ (w'.cell? ⟨wn.heap.size, 0, none⟩ = some (.int .u64 (hiW 0)) ∧ w'.cell? ⟨wn.heap.size, 1, none⟩ = some (.int .u64 (loW 0))) ∧ (w'.cell? ⟨w23.heap.size, 0, none⟩ = some (.int .u64 (hiW 0)) ∧ w'.cell? ⟨w23.heap.size, 1, none⟩ = some (.int .u64 (loW 0))) ∧ (w'.cell? ⟨w.heap.size, 0, none⟩ = some (.int .u64 9223372036854775808) ∧ w'.cell? ⟨w.heap.size, 1, none⟩ = some (.int .u64 0)) ∧ Below W24.heap.size W24 w') (first | exact ⟨⟨Bx1.out.1, Bx1.out.2.1⟩, ⟨Bo.out.1, Bo.out.2.1⟩, ⟨Bg.out.1, Bg.out.2.1⟩, ⟨Ba.out.1, Ba.out.2.1⟩, Below.drew (Below.refl _ _)⟩ | (have hk := HK.out; exact ⟨⟨(Bx1.out.to hk).1, (Bx1.out.to hk).2.1⟩, ⟨(Bo.out.to hk).1, (Bo.out.to hk).2.1⟩, ⟨(Bg.out.to hk).1, (Bg.out.to hk).2.1⟩, ⟨(Ba.out.to hk).1, (Ba.out.to hk).2.1⟩, hk⟩))
        (first
        | (go_at_call 10; refine (words_any _ _ _).mono ?_; rintro e wm ⟨rfl, hbk⟩; have HK := hid (show Below W24.heap.size W24 wm from (by first | exact btr HK.out hbk | exact btr (Below.drew (Below.refl _ _)) hbk)); clear hbk)
        | (go_at_call 13; refine (sign_any 0 _ (by unfold Amt; omega)).mono ?_; rintro e wm ⟨rfl, hbk⟩; have HK := hid (show Below W24.heap.size W24 wm from (by first | exact btr HK.out hbk | exact btr (Below.drew (Below.refl _ _)) hbk)); clear hbk))
            | fail "held"
      all_goals
        go_wp2
        exact bodyPost_ret (v := .bool true) (by simp [results, Try.results4, go_sem]) rfl ⟨rfl, btr L23.out HK.out⟩
  ·
    go_wp2_with fail
    refine (text_walk x _ hx.out).mono ?_
    rintro e w22 ⟨⟨xs, hxs, rfl⟩, hb⟩
    have M22 := hid (show Below wk.heap.size wk w22 from (by refine btr ?_ hb; repeat (first | exact HK.out | exact Below.refl _ _ | refine bal ?_ _ | refine Below.setCell ?_ (by dsimp only; omega) _ | refine Below.drew ?_)))
    first | have Bo := hid ((two_bx T.out 0).to hb) | have Bo := hid ((bx_new wl (hiW 0) (loW 0) 33).to hb)
    have L22 := hid (btr L20.out M22.out)
    have Ba := hid (Ba.out.to M22.out)
    have Bx1 := hid (Bx1.out.to M22.out)
    clear hb HK M22 L20 x0 x1 x2
    try clear T t0 t1 t2 t3
    go_wp2_with fail
    refine (FP.out xs _ hxs).mono ?_
    rintro e w23 ⟨rfl, hb⟩
    have L23 := hid (bal (btr L22.out hb) (.cells #[.int .u64 (hiW x), .int .u64 (loW x)] 33))
    have Ba := hid ((Ba.out.to hb).alloc (.cells #[.int .u64 (hiW x), .int .u64 (loW x)] 33))
    have Bx1 := hid ((Bx1.out.to hb).alloc (.cells #[.int .u64 (hiW x), .int .u64 (loW x)] 33))
    have Bo := hid ((Bo.out.to hb).alloc (.cells #[.int .u64 (hiW x), .int .u64 (loW x)] 33))
    have Bg := hid (bx_new w23 (hiW x) (loW x) 33)
    clear hb L22
    unfold mv
    go_wp2
    obtain ⟨W24, hW24⟩ : ∃ W, w23.alloc (.cells #[.int .u64 (hiW x), .int .u64 (loW x)] 33) = W := ⟨_, rfl⟩
    rw [hW24] at Ba Bx1 Bo Bg L23 ⊢
    clear hW24
    have z1 : sgn 0 = 0 := rfl
    have z2 : hiW 0 = 0 := rfl
    have z3 : loW 0 = 0 := rfl
    clear fa fb fc hE
    rcases hA with ⟨h1, h2, h3⟩ | ⟨h1, h2, h3, h4⟩
    ·
      subst h1 h2 h3
      refine wp_region_held_drew (S := (fun w' => (w'.cell? ⟨w1.heap.size, 0, none⟩ = some (.int .u64 (hiW x)) ∧ w'.cell? ⟨w1.heap.size, 1, none⟩ = some (.int .u64 (loW x))) ∧ (w'.cell? ⟨wk.heap.size, 0, none⟩ = some (.int .u64 (hiW 0)) ∧ w'.cell? ⟨wk.heap.size, 1, none⟩ = some (.int .u64 (loW 0))) ∧ (w'.cell? ⟨w23.heap.size, 0, none⟩ = some (.int .u64 (hiW x)) ∧ w'.cell? ⟨w23.heap.size, 1, none⟩ = some (.int .u64 (loW x))) ∧ (w'.cell? ⟨w.heap.size, 0, none⟩ = some (.int .u64 (hiW x)) ∧ w'.cell? ⟨w.heap.size, 1, none⟩ = some (.int .u64 (loW x))) ∧ Below W24.heap.size W24 w')) (by kernel_rfl) ?_ (fun hHeld => ?_)
      · (try dsimp only); (first | exact ⟨⟨Bx1.out.1, Bx1.out.2.1⟩, ⟨Bo.out.1, Bo.out.2.1⟩, ⟨Bg.out.1, Bg.out.2.1⟩, ⟨Ba.out.1, Ba.out.2.1⟩, Below.drew (Below.refl _ _)⟩ | (have hk := HK.out; exact ⟨⟨(Bx1.out.to hk).1, (Bx1.out.to hk).2.1⟩, ⟨(Bo.out.to hk).1, (Bo.out.to hk).2.1⟩, ⟨(Bg.out.to hk).1, (Bg.out.to hk).2.1⟩, ⟨(Ba.out.to hk).1, (Ba.out.to hk).2.1⟩, hk⟩))
      refine' wpAnyH_take (i := 0) (oi := _) (v := _) rfl (by kernel_rfl) (by kernel_rfl) (by kernel_rfl) (fun _ _ _ h => h) (Or.inl ⟨by kernel_rfl, ?hyq233⟩) (by assumption) ?restq233
      case hyq233 => (intro w hSw; (try dsimp only at hSw); go_simp; try (with_reducible rfl))
      try simp only [List.getElem_toArray, List.getElem_cons_succ, List.getElem_cons_zero, Act.put, List.setIfInBounds_toArray, List.set_cons_zero, List.set_cons_succ]
      refine' wpAnyH_take (i := 1) (oi := _) (v := _) rfl (by kernel_rfl) (by kernel_rfl) (by kernel_rfl) (fun _ _ _ h => h) (Or.inl ⟨by kernel_rfl, ?hyq234⟩) (by assumption) ?restq234
      case hyq234 => (intro w hSw; (try dsimp only at hSw); go_simp; try (with_reducible rfl))
      try simp only [List.getElem_toArray, List.getElem_cons_succ, List.getElem_cons_zero, Act.put, List.setIfInBounds_toArray, List.set_cons_zero, List.set_cons_succ]
      refine' wpAnyH_take (i := 2) (oi := _) (v := _) rfl (by kernel_rfl) (by kernel_rfl) (by kernel_rfl) (fun _ _ _ h => h) (Or.inl ⟨by kernel_rfl, ?hyq235⟩) (by assumption) ?restq235
      case hyq235 => (intro w hSw; (try dsimp only at hSw); go_simp; try (with_reducible rfl))
      try simp only [List.getElem_toArray, List.getElem_cons_succ, List.getElem_cons_zero, Act.put, List.setIfInBounds_toArray, List.set_cons_zero, List.set_cons_succ]
      refine' wpAnyH_take (i := 3) (oi := _) (v := _) rfl (by kernel_rfl) (by kernel_rfl) (by kernel_rfl) (fun _ _ _ h => h) (Or.inl ⟨by kernel_rfl, ?hyq236⟩) (by assumption) ?restq236
      case hyq236 => (intro w hSw; (try dsimp only at hSw); go_simp; try (with_reducible rfl))
      try simp only [List.getElem_toArray, List.getElem_cons_succ, List.getElem_cons_zero, Act.put, List.setIfInBounds_toArray, List.set_cons_zero, List.set_cons_succ]
      refine wpAnyH_ready (rs := [4]) (by kernel_rfl) (by simp) ?_
      refine AllReadyH.cons (o := _) rfl (fun K hK => ?_) AllReadyH.nil
      go_simp
      refine (sign_any 0 _ (by unfold Amt; omega)).mono ?_; rintro e wm ⟨rfl, hbk⟩; have HK := hid (show Below W24.heap.size W24 wm from (by first | exact btr HK.out hbk | exact btr (Below.drew (Below.refl _ _)) hbk)); clear hbk
      (try go_wp2_with fail)
      refine hK.out _ _ ?_ (fun hHeld => ?_)
      · (try dsimp only); (first | exact ⟨⟨Bx1.out.1, Bx1.out.2.1⟩, ⟨Bo.out.1, Bo.out.2.1⟩, ⟨Bg.out.1, Bg.out.2.1⟩, ⟨Ba.out.1, Ba.out.2.1⟩, Below.drew (Below.refl _ _)⟩ | (have hk := HK.out; exact ⟨⟨(Bx1.out.to hk).1, (Bx1.out.to hk).2.1⟩, ⟨(Bo.out.to hk).1, (Bo.out.to hk).2.1⟩, ⟨(Bg.out.to hk).1, (Bg.out.to hk).2.1⟩, ⟨(Ba.out.to hk).1, (Ba.out.to hk).2.1⟩, hk⟩))
      clear hK K
      try simp only [List.getElem_toArray, List.getElem_cons_succ, List.getElem_cons_zero, Act.put, List.setIfInBounds_toArray, List.set_cons_zero, List.set_cons_succ]
      refine' wpAnyH_take (i := 5) (oi := _) (v := _) rfl (by kernel_rfl) (by kernel_rfl) (by kernel_rfl) (fun _ _ _ h => h) (Or.inl ⟨by kernel_rfl, ?hyq237⟩) (by assumption) ?restq237
      case hyq237 => (intro w hSw; (try dsimp only at hSw); go_simp; try (with_reducible rfl))
      try simp only [List.getElem_toArray, List.getElem_cons_succ, List.getElem_cons_zero, Act.put, List.setIfInBounds_toArray, List.set_cons_zero, List.set_cons_succ]
      refine' wpAnyH_take (i := 6) (oi := _) (v := _) rfl (by kernel_rfl) (by kernel_rfl) (by kernel_rfl) (fun _ _ _ h => h) (Or.inl ⟨by kernel_rfl, ?hyq238⟩) (by assumption) ?restq238
      case hyq238 => (intro w hSw; (try dsimp only at hSw); go_simp; try (with_reducible rfl))
      try simp only [List.getElem_toArray, List.getElem_cons_succ, List.getElem_cons_zero, Act.put, List.setIfInBounds_toArray, List.set_cons_zero, List.set_cons_succ]
      refine' wpAnyH_take (i := 7) (oi := _) (v := _) rfl (by kernel_rfl) (by kernel_rfl) (by kernel_rfl) (fun _ _ _ h => h) (Or.inl ⟨by kernel_rfl, ?hyq239⟩) (by assumption) ?restq239
      case hyq239 => (intro w hSw; (try dsimp only at hSw); go_simp; try (with_reducible rfl))
      try simp only [List.getElem_toArray, List.getElem_cons_succ, List.getElem_cons_zero, Act.put, List.setIfInBounds_toArray, List.set_cons_zero, List.set_cons_succ]
      refine' wpAnyH_take (i := 8) (oi := _) (v := _) rfl (by kernel_rfl) (by kernel_rfl) (by kernel_rfl) (fun _ _ _ h => h) (Or.inl ⟨by kernel_rfl, ?hyq240⟩) (by assumption) ?restq240
      case hyq240 => (intro w hSw; (try dsimp only at hSw); go_simp; try (with_reducible rfl))
      try simp only [List.getElem_toArray, List.getElem_cons_succ, List.getElem_cons_zero, Act.put, List.setIfInBounds_toArray, List.set_cons_zero, List.set_cons_succ]
      refine' wpAnyH_take (i := 9) (oi := _) (v := _) rfl (by kernel_rfl) (by kernel_rfl) (by kernel_rfl) (fun _ _ _ h => h) (Or.inl ⟨by kernel_rfl, ?hyq241⟩) (by assumption) ?restq241
      case hyq241 => (intro w hSw; (try dsimp only at hSw); go_simp; try (with_reducible rfl))
      try simp only [List.getElem_toArray, List.getElem_cons_succ, List.getElem_cons_zero, Act.put, List.setIfInBounds_toArray, List.set_cons_zero, List.set_cons_succ]
      refine' wpAnyH_take (i := 10) (oi := _) (v := _) rfl (by kernel_rfl) (by kernel_rfl) (by kernel_rfl) (fun _ _ _ h => h) (Or.inl ⟨by kernel_rfl, ?hyq242⟩) (by assumption) ?restq242
      case hyq242 => (intro w hSw; (try dsimp only at hSw); go_simp; try (with_reducible rfl))
      try simp only [List.getElem_toArray, List.getElem_cons_succ, List.getElem_cons_zero, Act.put, List.setIfInBounds_toArray, List.set_cons_zero, List.set_cons_succ]
      refine' wpAnyH_take (i := 11) (oi := _) (v := _) rfl (by kernel_rfl) (by kernel_rfl) (by kernel_rfl) (fun _ _ _ h => h) (Or.inl ⟨by kernel_rfl, ?hyq243⟩) (by assumption) ?restq243
      case hyq243 => (intro w hSw; (try dsimp only at hSw); go_simp; try (with_reducible rfl))
      try simp only [List.getElem_toArray, List.getElem_cons_succ, List.getElem_cons_zero, Act.put, List.setIfInBounds_toArray, List.set_cons_zero, List.set_cons_succ]
      refine' wpAnyH_take (i := 12) (oi := _) (v := _) rfl (by kernel_rfl) (by kernel_rfl) (by kernel_rfl) (fun _ _ _ h => h) (Or.inl ⟨by kernel_rfl, ?hyq244⟩) (by assumption) ?restq244
      case hyq244 => (intro w hSw; (try dsimp only at hSw); go_simp; try (with_reducible rfl))
      try simp only [List.getElem_toArray, List.getElem_cons_succ, List.getElem_cons_zero, Act.put, List.setIfInBounds_toArray, List.set_cons_zero, List.set_cons_succ]
      refine' wpAnyH_take (i := 14) (oi := _) (v := _) rfl (by kernel_rfl) (by kernel_rfl) (by kernel_rfl) (fun _ _ _ h => h) (Or.inl ⟨by kernel_rfl, ?hyq245⟩) (by assumption) ?restq245
      case hyq245 => (intro w hSw; (try dsimp only at hSw); go_simp; try (with_reducible rfl))
      try simp only [List.getElem_toArray, List.getElem_cons_succ, List.getElem_cons_zero, Act.put, List.setIfInBounds_toArray, List.set_cons_zero, List.set_cons_succ]
      refine wpAnyH_ready (rs := [13]) (by kernel_rfl) (by simp) ?_
      refine AllReadyH.cons (o := _) rfl (fun K hK => ?_) AllReadyH.nil
      go_simp
      refine (words_any _ _ _).mono ?_; rintro e wm ⟨rfl, hbk⟩; have HK := hid (show Below W24.heap.size W24 wm from (by first | exact btr HK.out hbk | exact btr (Below.drew (Below.refl _ _)) hbk)); clear hbk
      (try go_wp2_with fail)
      refine hK.out _ _ ?_ (fun hHeld => ?_)
      · (try dsimp only); (first | exact ⟨⟨Bx1.out.1, Bx1.out.2.1⟩, ⟨Bo.out.1, Bo.out.2.1⟩, ⟨Bg.out.1, Bg.out.2.1⟩, ⟨Ba.out.1, Ba.out.2.1⟩, Below.drew (Below.refl _ _)⟩ | (have hk := HK.out; exact ⟨⟨(Bx1.out.to hk).1, (Bx1.out.to hk).2.1⟩, ⟨(Bo.out.to hk).1, (Bo.out.to hk).2.1⟩, ⟨(Bg.out.to hk).1, (Bg.out.to hk).2.1⟩, ⟨(Ba.out.to hk).1, (Ba.out.to hk).2.1⟩, hk⟩))
      clear hK K
      try simp only [List.getElem_toArray, List.getElem_cons_succ, List.getElem_cons_zero, Act.put, List.setIfInBounds_toArray, List.set_cons_zero, List.set_cons_succ]
      refine wpAnyH_ready (rs := [15]) (by kernel_rfl) (by simp) ?_
      refine AllReadyH.cons (o := _) rfl (fun K hK => ?_) AllReadyH.nil
      go_simp
      refine (words_any _ _ _).mono ?_; rintro e wm ⟨rfl, hbk⟩; have HK := hid (show Below W24.heap.size W24 wm from (by first | exact btr HK.out hbk | exact btr (Below.drew (Below.refl _ _)) hbk)); clear hbk
      (try go_wp2_with fail)
      refine hK.out _ _ ?_ (fun hHeld => ?_)
      · (try dsimp only); (first | exact ⟨⟨Bx1.out.1, Bx1.out.2.1⟩, ⟨Bo.out.1, Bo.out.2.1⟩, ⟨Bg.out.1, Bg.out.2.1⟩, ⟨Ba.out.1, Ba.out.2.1⟩, Below.drew (Below.refl _ _)⟩ | (have hk := HK.out; exact ⟨⟨(Bx1.out.to hk).1, (Bx1.out.to hk).2.1⟩, ⟨(Bo.out.to hk).1, (Bo.out.to hk).2.1⟩, ⟨(Bg.out.to hk).1, (Bg.out.to hk).2.1⟩, ⟨(Ba.out.to hk).1, (Ba.out.to hk).2.1⟩, hk⟩))
      clear hK K
      try simp only [List.getElem_toArray, List.getElem_cons_succ, List.getElem_cons_zero, Act.put, List.setIfInBounds_toArray, List.set_cons_zero, List.set_cons_succ]
      refine' wpAnyH_take (i := 16) (oi := _) (v := _) rfl (by kernel_rfl) (by kernel_rfl) (by kernel_rfl) (fun _ _ _ h => h) (Or.inl ⟨by kernel_rfl, ?hyq246⟩) (by assumption) ?restq246
      case hyq246 => (intro w hSw; (try dsimp only at hSw); go_simp; try (with_reducible rfl))
      try simp only [List.getElem_toArray, List.getElem_cons_succ, List.getElem_cons_zero, Act.put, List.setIfInBounds_toArray, List.set_cons_zero, List.set_cons_succ]
      refine' wpAnyH_take (i := 17) (oi := _) (v := _) rfl (by kernel_rfl) (by kernel_rfl) (by kernel_rfl) (fun _ _ _ h => h) (Or.inl ⟨by kernel_rfl, ?hyq247⟩) (by assumption) ?restq247
      case hyq247 => (intro w hSw; (try dsimp only at hSw); go_simp; try (with_reducible rfl))
      try simp only [List.getElem_toArray, List.getElem_cons_succ, List.getElem_cons_zero, Act.put, List.setIfInBounds_toArray, List.set_cons_zero, List.set_cons_succ]
      refine' wpAnyH_take (i := 18) (oi := _) (v := _) rfl (by kernel_rfl) (by kernel_rfl) (by kernel_rfl) (fun _ _ _ h => h) (Or.inl ⟨by kernel_rfl, ?hyq248⟩) (by assumption) ?restq248
      case hyq248 => (intro w hSw; (try dsimp only at hSw); go_simp; try (with_reducible rfl))
      try simp only [List.getElem_toArray, List.getElem_cons_succ, List.getElem_cons_zero, Act.put, List.setIfInBounds_toArray, List.set_cons_zero, List.set_cons_succ]
      refine' wpAnyH_take (i := 19) (oi := _) (v := _) rfl (by kernel_rfl) (by kernel_rfl) (by kernel_rfl) (fun _ _ _ h => h) (Or.inl ⟨by kernel_rfl, ?hyq249⟩) (by assumption) ?restq249
      case hyq249 => (intro w hSw; (try dsimp only at hSw); go_simp; try (with_reducible rfl))
      try simp only [List.getElem_toArray, List.getElem_cons_succ, List.getElem_cons_zero, Act.put, List.setIfInBounds_toArray, List.set_cons_zero, List.set_cons_succ]
      refine' wpAnyH_take (i := 21) (oi := _) (v := _) rfl (by kernel_rfl) (by kernel_rfl) (by kernel_rfl) (fun _ _ _ h => h) (Or.inl ⟨by kernel_rfl, ?hyq250⟩) (by assumption) ?restq250
      case hyq250 => (intro w hSw; (try dsimp only at hSw); go_simp; try (with_reducible rfl))
      try simp only [List.getElem_toArray, List.getElem_cons_succ, List.getElem_cons_zero, Act.put, List.setIfInBounds_toArray, List.set_cons_zero, List.set_cons_succ]
      refine' wpAnyH_take (i := 23) (oi := _) (v := _) rfl (by kernel_rfl) (by kernel_rfl) (by kernel_rfl) (fun _ _ _ h => h) (Or.inl ⟨by kernel_rfl, ?hyq251⟩) (by assumption) ?restq251
      case hyq251 => (intro w hSw; (try dsimp only at hSw); go_simp; try (with_reducible rfl))
      try simp only [List.getElem_toArray, List.getElem_cons_succ, List.getElem_cons_zero, Act.put, List.setIfInBounds_toArray, List.set_cons_zero, List.set_cons_succ]
      refine' wpAnyH_take (i := 24) (oi := _) (v := _) rfl (by kernel_rfl) (by kernel_rfl) (by kernel_rfl) (fun _ _ _ h => h) (Or.inl ⟨by kernel_rfl, ?hyq252⟩) (by assumption) ?restq252
      case hyq252 => (intro w hSw; (try dsimp only at hSw); go_simp; try (with_reducible rfl))
      try simp only [List.getElem_toArray, List.getElem_cons_succ, List.getElem_cons_zero, Act.put, List.setIfInBounds_toArray, List.set_cons_zero, List.set_cons_succ]
      refine wpAnyH_ready (rs := [20]) (by kernel_rfl) (by simp) ?_
      refine AllReadyH.cons (o := _) rfl (fun K hK => ?_) AllReadyH.nil
      go_simp
      refine (words_any _ _ _).mono ?_; rintro e wm ⟨rfl, hbk⟩; have HK := hid (show Below W24.heap.size W24 wm from (by first | exact btr HK.out hbk | exact btr (Below.drew (Below.refl _ _)) hbk)); clear hbk
      (try go_wp2_with fail)
      refine hK.out _ _ ?_ (fun hHeld => ?_)
      · (try dsimp only); (first | exact ⟨⟨Bx1.out.1, Bx1.out.2.1⟩, ⟨Bo.out.1, Bo.out.2.1⟩, ⟨Bg.out.1, Bg.out.2.1⟩, ⟨Ba.out.1, Ba.out.2.1⟩, Below.drew (Below.refl _ _)⟩ | (have hk := HK.out; exact ⟨⟨(Bx1.out.to hk).1, (Bx1.out.to hk).2.1⟩, ⟨(Bo.out.to hk).1, (Bo.out.to hk).2.1⟩, ⟨(Bg.out.to hk).1, (Bg.out.to hk).2.1⟩, ⟨(Ba.out.to hk).1, (Ba.out.to hk).2.1⟩, hk⟩))
      clear hK K
      try simp only [List.getElem_toArray, List.getElem_cons_succ, List.getElem_cons_zero, Act.put, List.setIfInBounds_toArray, List.set_cons_zero, List.set_cons_succ]
      refine' wpAnyH_take (i := 22) (oi := _) (v := _) rfl (by kernel_rfl) (by kernel_rfl) (by kernel_rfl) (fun _ _ _ h => h) (Or.inl ⟨by kernel_rfl, ?hyq253⟩) (by assumption) ?restq253
      case hyq253 => (intro w hSw; (try dsimp only at hSw); go_simp; try (with_reducible rfl))
      try simp only [List.getElem_toArray, List.getElem_cons_succ, List.getElem_cons_zero, Act.put, List.setIfInBounds_toArray, List.set_cons_zero, List.set_cons_succ]
      refine' wpAnyH_take (i := 25) (oi := _) (v := _) rfl (by kernel_rfl) (by kernel_rfl) (by kernel_rfl) (fun _ _ _ h => h) (Or.inl ⟨by kernel_rfl, ?hyq254⟩) (by assumption) ?restq254
      case hyq254 => (intro w hSw; (try dsimp only at hSw); go_simp; try (with_reducible rfl))
      try simp only [List.getElem_toArray, List.getElem_cons_succ, List.getElem_cons_zero, Act.put, List.setIfInBounds_toArray, List.set_cons_zero, List.set_cons_succ]
      refine' wpAnyH_take (i := 26) (oi := _) (v := undef) rfl (by kernel_rfl) (by kernel_rfl) (by kernel_rfl) (fun _ _ _ h => h) (Or.inr ⟨by kernel_rfl, rfl⟩) (by assumption) ?restq255
      try simp only [List.getElem_toArray, List.getElem_cons_succ, List.getElem_cons_zero, Act.put, List.setIfInBounds_toArray, List.set_cons_zero, List.set_cons_succ]
      refine' wpAnyH_take (i := 27) (oi := _) (v := undef) rfl (by kernel_rfl) (by kernel_rfl) (by kernel_rfl) (fun _ _ _ h => h) (Or.inr ⟨by kernel_rfl, rfl⟩) (by assumption) ?restq256
      try simp only [List.getElem_toArray, List.getElem_cons_succ, List.getElem_cons_zero, Act.put, List.setIfInBounds_toArray, List.set_cons_zero, List.set_cons_succ]
      refine' wpAnyH_take (i := 28) (oi := _) (v := undef) rfl (by kernel_rfl) (by kernel_rfl) (by kernel_rfl) (fun _ _ _ h => h) (Or.inr ⟨by kernel_rfl, rfl⟩) (by assumption) ?restq257
      try simp only [List.getElem_toArray, List.getElem_cons_succ, List.getElem_cons_zero, Act.put, List.setIfInBounds_toArray, List.set_cons_zero, List.set_cons_succ]
      refine' wpAnyH_take (i := 29) (oi := _) (v := _) rfl (by kernel_rfl) (by kernel_rfl) (by kernel_rfl) (fun _ _ _ h => h) (Or.inl ⟨by kernel_rfl, ?hyq258⟩) (by assumption) ?restq258
      case hyq258 => (intro w hSw; (try dsimp only at hSw); go_simp; try (with_reducible rfl))
      try simp only [List.getElem_toArray, List.getElem_cons_succ, List.getElem_cons_zero, Act.put, List.setIfInBounds_toArray, List.set_cons_zero, List.set_cons_succ]
      refine' wpAnyH_take (i := 30) (oi := _) (v := _) rfl (by kernel_rfl) (by kernel_rfl) (by kernel_rfl) (fun _ _ _ h => h) (Or.inl ⟨by kernel_rfl, ?hyq259⟩) (by assumption) ?restq259
      case hyq259 => (intro w hSw; (try dsimp only at hSw); go_simp; try (with_reducible rfl))
      try simp only [List.getElem_toArray, List.getElem_cons_succ, List.getElem_cons_zero, Act.put, List.setIfInBounds_toArray, List.set_cons_zero, List.set_cons_succ]
      refine' wpAnyH_take (i := 31) (oi := _) (v := _) rfl (by kernel_rfl) (by kernel_rfl) (by kernel_rfl) (fun _ _ _ h => h) (Or.inl ⟨by kernel_rfl, ?hyq260⟩) (by assumption) ?restq260
      case hyq260 => (intro w hSw; (try dsimp only at hSw); go_simp; try (with_reducible rfl))
      try simp only [List.getElem_toArray, List.getElem_cons_succ, List.getElem_cons_zero, Act.put, List.setIfInBounds_toArray, List.set_cons_zero, List.set_cons_succ]
      refine' wpAnyH_take (i := 32) (oi := _) (v := _) rfl (by kernel_rfl) (by kernel_rfl) (by kernel_rfl) (fun _ _ _ h => h) (Or.inl ⟨by kernel_rfl, ?hyq261⟩) (by assumption) ?restq261
      case hyq261 => (intro w hSw; (try dsimp only at hSw); go_simp; try (with_reducible rfl))
      try simp only [List.getElem_toArray, List.getElem_cons_succ, List.getElem_cons_zero, Act.put, List.setIfInBounds_toArray, List.set_cons_zero, List.set_cons_succ]
      refine wpAnyH_done (by kernel_rfl) ?_ _
      all_goals
        go_wp2
        exact bodyPost_ret (v := .bool true) (by simp [results, Try.results4, go_sem]) rfl ⟨rfl, btr L23.out HK.out⟩
    ·
      subst h4; subst h1 h2 h3
      first | skip; go_region_held3 (fun w' => (w'.cell? ⟨w1.heap.size, 0, none⟩ = some (.int .u64 (hiW 0)) ∧ w'.cell? ⟨w1.heap.size, 1, none⟩ = some (.int .u64 (loW 0))) ∧ (w'.cell? ⟨wk.heap.size, 0, none⟩ = some (.int .u64 (hiW 0)) ∧ w'.cell? ⟨wk.heap.size, 1, none⟩ = some (.int .u64 (loW 0))) ∧ (w'.cell? ⟨w23.heap.size, 0, none⟩ = some (.int .u64 (hiW 0)) ∧ w'.cell? ⟨w23.heap.size, 1, none⟩ = some (.int .u64 (loW 0))) ∧ (w'.cell? ⟨w.heap.size, 0, none⟩ = some (.int .u64 9223372036854775808) ∧ w'.cell? ⟨w.heap.size, 1, none⟩ = some (.int .u64 0)) ∧ Below W24.heap.size W24 w') (first | exact ⟨⟨Bx1.out.1, Bx1.out.2.1⟩, ⟨Bo.out.1, Bo.out.2.1⟩, ⟨Bg.out.1, Bg.out.2.1⟩, ⟨Ba.out.1, Ba.out.2.1⟩, Below.drew (Below.refl _ _)⟩ | (have hk := HK.out; exact ⟨⟨(Bx1.out.to hk).1, (Bx1.out.to hk).2.1⟩, ⟨(Bo.out.to hk).1, (Bo.out.to hk).2.1⟩, ⟨(Bg.out.to hk).1, (Bg.out.to hk).2.1⟩, ⟨(Ba.out.to hk).1, (Ba.out.to hk).2.1⟩, hk⟩))
        (first
        | (go_at_call 10; refine (words_any _ _ _).mono ?_; rintro e wm ⟨rfl, hbk⟩; have HK := hid (show Below W24.heap.size W24 wm from (by first | exact btr HK.out hbk | exact btr (Below.drew (Below.refl _ _)) hbk)); clear hbk)
        | (go_at_call 13; refine (sign_any 0 _ (by unfold Amt; omega)).mono ?_; rintro e wm ⟨rfl, hbk⟩; have HK := hid (show Below W24.heap.size W24 wm from (by first | exact btr HK.out hbk | exact btr (Below.drew (Below.refl _ _)) hbk)); clear hbk))
            | fail "held"
      all_goals
        go_wp2
        exact bodyPost_ret (v := .bool true) (by simp [results, Try.results4, go_sem]) rfl ⟨rfl, btr L23.out HK.out⟩
end Go.Proofs.Ytcnbefggobgodab.moneyAdds
