/-
  MoneyAdds: amounts add up in any order.
-/
import Derived.Test.YtcnbefggobgodabLawH
namespace Go.Proofs.Ytcnbefggobgodab.moneyAdds
open Go.RowKit Go.Deep MonM TexM
set_option linter.unusedVariables false

set_option maxHeartbeats 60000000 in
set_option maxRecDepth 100000 in
theorem lawB (A0 A1 B0 B1 C0 C1 x y z Ea Eb Ec : Int) (w : World) (hx : Hid (Amt x)) (hy : Hid (Amt y)) (hz : Hid (Amt z)) (hs : Hid (Amt (maddV x y)))
    (hA : (Ea = 0 ∧ A0 = hiW x ∧ A1 = loW x) ∨ (Ea = 3 ∧ A0 = 9223372036854775808 ∧ A1 = 0 ∧ x = 0))
    (FP : Hid (∀ (xs : List Int) (w : World), IsText x xs → Calls Try.prog 15 #[.string (strOfNums xs)] w fun e w' => e = .returned (.tuple #[mv x, .int .i64 0]) ∧ Below w.heap.size w w'))
    (fa : Hid (∀ w : World, Calls Try.prog 8 #[.agg #[.int .u64 A0, .int .u64 A1]] w fun e w' => e = .returned (.tuple #[mv x, .int .i64 Ea]) ∧ Below w.heap.size w w'))
    (fb : Hid (∀ w : World, Calls Try.prog 8 #[.agg #[.int .u64 B0, .int .u64 B1]] w fun e w' => e = .returned (.tuple #[mv y, .int .i64 Eb]) ∧ Below w.heap.size w w'))
    (fc : Hid (∀ w : World, Calls Try.prog 8 #[.agg #[.int .u64 C0, .int .u64 C1]] w fun e w' => e = .returned (.tuple #[mv z, .int .i64 Ec]) ∧ Below w.heap.size w w'))
    (na : (Ea == 0) = !(A0 == 9223372036854775808 && A1 == 0)) (nb : (Eb == 0) = !(B0 == 9223372036854775808 && B1 == 0)) (nc : (Ec == 0) = !(C0 == 9223372036854775808 && C1 == 0))
    (hE : (maddE x y == 0) = false) :
    Calls Try.prog 4 #[.agg #[.int .u64 A0, .int .u64 A1], .agg #[.int .u64 B0, .int .u64 B1], .agg #[.int .u64 C0, .int .u64 C1]] w fun e w' => e = .returned (.bool true) ∧ Below w.heap.size w w' := by
  have heq := eqArr
  have cm1 : maddV y x = maddV x y := by unfold maddV; rw [Int.add_comm]
  have cm2 : maddE y x = maddE x y := by unfold maddE; rw [Int.add_comm]
  have cc : cmp3 y x = - cmp3 x y := by unfold cmp3; split <;> split <;> omega
  have c1 : -1 ≤ cmp3 x y := by unfold cmp3; split <;> (try split) <;> decide
  have c2 : cmp3 x y ≤ 1 := by unfold cmp3; split <;> (try split) <;> decide
  have cw : IntKind.i64.wrap (cmp3 x y) = cmp3 x y := by rw [wrap_i64]; omega
  unfold mv at fa fb fc
  go_enter Try.func4, Try.ntmps4
  go_wp2_with fail
  refine (fa.out _).mono ?_
  rintro e w1 ⟨rfl, hb1⟩
  have L1 := hid (btr (bal (bal (bal (b0 w) (.cells #[.int .u64 A0, .int .u64 A1] 31)) (.cells #[.int .u64 B0, .int .u64 B1] 31)) (.cells #[.int .u64 C0, .int .u64 C1] 31)) hb1)
  have Ba := hid ((((bx_new w A0 A1 31).alloc (.cells #[.int .u64 B0, .int .u64 B1] 31)).alloc (.cells #[.int .u64 C0, .int .u64 C1] 31)).to hb1)
  have Bb := hid (((bx_new1 w B0 B1 A0 A1 31 31).alloc (.cells #[.int .u64 C0, .int .u64 C1] 31)).to hb1)
  have Bc := hid ((show Bx (((w.alloc (.cells #[.int .u64 A0, .int .u64 A1] 31)).alloc (.cells #[.int .u64 B0, .int .u64 B1] 31)).alloc (.cells #[.int .u64 C0, .int .u64 C1] 31)) (w.heap.size + 1 + 1) C0 C1 from by have h := bx_new1 (w.alloc (.cells #[.int .u64 A0, .int .u64 A1] 31)) C0 C1 B0 B1 31 31; simpa using h).to hb1)
  clear hb1
  obtain ⟨r0, r1, r2⟩ := Bb.out
  go_wp2_with fail
  refine (fb.out _).mono ?_
  rintro e w2 ⟨rfl, hb⟩
  have L2 := hid (btr (bal L1.out _) hb)
  have Ba := hid ((Ba.out.alloc _).to hb)
  have Bb := hid ((Bb.out.alloc _).to hb)
  have Bc := hid ((Bc.out.alloc _).to hb)
  have Bx1 := hid ((bx_new w1 (hiW x) (loW x) 33).to hb)
  clear hb r0 r1 r2
  obtain ⟨r0, r1, r2⟩ := Bc.out
  go_wp2_with fail
  refine (fc.out _).mono ?_
  rintro e w3 ⟨rfl, hb⟩
  have L3 := hid (btr (bal L2.out _) hb)
  have Ba := hid ((Ba.out.alloc _).to hb)
  have Bb := hid ((Bb.out.alloc _).to hb)
  have Bc := hid ((Bc.out.alloc _).to hb)
  have Bx1 := hid ((Bx1.out.alloc _).to hb)
  have By := hid ((bx_new w2 (hiW y) (loW y) 33).to hb)
  clear hb r0 r1 r2
  obtain ⟨a0, a1, a2⟩ := Ba.out
  obtain ⟨c0, c1', c2'⟩ := Bb.out
  obtain ⟨d0, d1, d2⟩ := Bc.out
  have Bz := hid (bx_new w3 (hiW z) (loW z) 33)
  obtain ⟨x0, x1, x2⟩ := Bx1.out
  obtain ⟨y0, y1, y2⟩ := By.out
  have l1 : w.heap.size ≤ w3.heap.size := by omega
  have l2 : w1.heap.size ≤ w3.heap.size := by omega
  have l3 : w2.heap.size ≤ w3.heap.size := by omega
  go_wp2_with fail
  refine (madd_any x y _ hx.out hy.out).mono ?_
  rintro e w4 ⟨rfl, hb⟩
  have L4 := hid (btr (bal (bal L3.out _) _) hb)
  have Ba := hid (((Ba.out.alloc _).alloc _).to hb)
  have Bx1 := hid (((Bx1.out.alloc _).alloc _).to hb)
  have By := hid (((By.out.alloc _).alloc _).to hb)
  have Bz := hid ((Bz.out.alloc _).to hb)
  clear hb a0 a1 a2 c0 c1' c2' d0 d1 d2 x0 x1 x2 y0 y1 y2 l1 l2 l3 na nb nc Bb Bc
  obtain ⟨x0, x1, x2⟩ := Bx1.out
  obtain ⟨y0, y1, y2⟩ := By.out
  unfold mv
  go_wp2_with fail
  refine (madd_any y x _ hy.out hx.out).mono ?_
  rintro e w5 ⟨rfl, hb⟩
  rw [cm1, cm2]
  have L5 := hid (btr (bal L4.out _) hb)
  have Ba := hid ((Ba.out.alloc _).to hb)
  have Bx1 := hid ((Bx1.out.alloc _).to hb)
  have By := hid ((By.out.alloc _).to hb)
  have Bz := hid ((Bz.out.alloc _).to hb)
  have Bs := hid ((bx_new w4 (hiW (maddV x y)) (loW (maddV x y)) 33).to hb)
  have Bt := hid (bx_new w5 (hiW (maddV x y)) (loW (maddV x y)) 33)
  clear hb x0 x1 x2 y0 y1 y2 cm1 cm2
  have Ba := hid (Ba.out.alloc (.cells #[.int .u64 (hiW (maddV x y)), .int .u64 (loW (maddV x y))] 33))
  have Bx1 := hid (Bx1.out.alloc (.cells #[.int .u64 (hiW (maddV x y)), .int .u64 (loW (maddV x y))] 33))
  have By := hid (By.out.alloc (.cells #[.int .u64 (hiW (maddV x y)), .int .u64 (loW (maddV x y))] 33))
  have Bz := hid (Bz.out.alloc (.cells #[.int .u64 (hiW (maddV x y)), .int .u64 (loW (maddV x y))] 33))
  have Bs := hid (Bs.out.alloc (.cells #[.int .u64 (hiW (maddV x y)), .int .u64 (loW (maddV x y))] 33))
  have L5 := hid (bal L5.out (.cells #[.int .u64 (hiW (maddV x y)), .int .u64 (loW (maddV x y))] 33))
  unfold mv
  go_wp2
  obtain ⟨W5, hW5⟩ : ∃ W, w5.alloc (.cells #[.int .u64 (hiW (maddV x y)), .int .u64 (loW (maddV x y))] 33) = W := ⟨_, rfl⟩
  rw [hW5] at Ba Bx1 By Bz Bs Bt L5 ⊢
  clear hW5
  go_region_held3 (fun w' => (w'.cell? ⟨w1.heap.size, 0, none⟩ = some (.int .u64 (hiW x)) ∧ w'.cell? ⟨w1.heap.size, 1, none⟩ = some (.int .u64 (loW x))) ∧ (w'.cell? ⟨w2.heap.size, 0, none⟩ = some (.int .u64 (hiW y)) ∧ w'.cell? ⟨w2.heap.size, 1, none⟩ = some (.int .u64 (loW y))) ∧ (w'.cell? ⟨w4.heap.size, 0, none⟩ = some (.int .u64 (hiW (maddV x y))) ∧ w'.cell? ⟨w4.heap.size, 1, none⟩ = some (.int .u64 (loW (maddV x y)))) ∧ (w'.cell? ⟨w5.heap.size, 0, none⟩ = some (.int .u64 (hiW (maddV x y))) ∧ w'.cell? ⟨w5.heap.size, 1, none⟩ = some (.int .u64 (loW (maddV x y)))) ∧ Below W5.heap.size W5 w') (first | exact ⟨⟨Bx1.out.1, Bx1.out.2.1⟩, ⟨By.out.1, By.out.2.1⟩, ⟨Bs.out.1, Bs.out.2.1⟩, ⟨Bt.out.1, Bt.out.2.1⟩, Below.drew (Below.refl _ _)⟩ | (have hk := HK.out; exact ⟨⟨(Bx1.out.to hk).1, (Bx1.out.to hk).2.1⟩, ⟨(By.out.to hk).1, (By.out.to hk).2.1⟩, ⟨(Bs.out.to hk).1, (Bs.out.to hk).2.1⟩, ⟨(Bt.out.to hk).1, (Bt.out.to hk).2.1⟩, hk⟩))
    (first
      | (go_at_call 10; refine (words_any _ _ _).mono ?_; rintro e wk ⟨rfl, hbk⟩; have HK := hid (show Below W5.heap.size W5 wk from (by first | exact btr HK.out hbk | exact btr (Below.drew (Below.refl _ _)) hbk)); clear hbk)
      | (go_at_call 11; refine (mcompare_any _ _ _ ?_ ?_).mono ?_; (first | exact hx.out | exact hy.out | exact hz.out | exact hs.out); (first | exact hx.out | exact hy.out | exact hz.out | exact hs.out); rintro e wk ⟨rfl, hbk⟩; have HK := hid (show Below W5.heap.size W5 wk from (by first | exact btr HK.out hbk | exact btr (Below.drew (Below.refl _ _)) hbk)); clear hbk))
  have L20 := hid (btr L5.out HK.out)
  have Ba := hid (Ba.out.to HK.out)
  have Bx1 := hid (Bx1.out.to HK.out)
  clear HK Bt By Bz Bs
  have hnx := hid (amt_neg x hx.out)
  have v0 := hid (show maddV x (-x) = 0 by unfold maddV; rw [Int.add_right_neg]; rfl)
  have e0 := hid (show maddE x (-x) = 0 by unfold maddE; rw [Int.add_right_neg]; rfl)
  obtain ⟨x0, x1, x2⟩ := Bx1.out
  go_wp2
  go_region_held3 (fun w' => (w'.cell? ⟨w1.heap.size, 0, none⟩ = some (.int .u64 (hiW x)) ∧ w'.cell? ⟨w1.heap.size, 1, none⟩ = some (.int .u64 (loW x))) ∧ Below wk.heap.size wk w') (exact keepB Bx1.out (by repeat (first | exact HK.out | exact Below.refl _ _ | refine bal ?_ _ | refine Below.setCell ?_ (by dsimp only; omega) _ | refine Below.drew ?_)))
    (first
    | (go_at_call 14; refine (neg_any _ _).mono ?_; rintro e wn ⟨rfl, hbk⟩; have HK := hid (show Below wk.heap.size wk wn from (by refine btr ?_ hbk; repeat (first | exact HK.out | exact Below.refl _ _ | refine bal ?_ _ | refine Below.setCell ?_ (by dsimp only; omega) _ | refine Below.drew ?_))); have hzwn : wk.heap.size ≤ wn.heap.size := HK.out.size; (first | (have T := hid (two_to T.out hbk)) | (have T := hid (two_to (two_new _ 0) hbk)) | (have T := hid (two_to (two_drew (two_new _ 0)) hbk)) | skip); (try (have t0 := T.out.c0; have t1 := T.out.c1; have t2 := T.out.f0; have t3 := T.out.f1)); clear hbk)
    | (go_at_call 9; refine (madd_any x (-x) _ hx.out hnx.out).mono ?_; rintro e wl ⟨rfl, hbk⟩; rw [v0.out, e0.out]; have HK := hid (show Below wk.heap.size wk wl from (by refine btr ?_ hbk; repeat (first | exact HK.out | exact Below.refl _ _ | refine bal ?_ _ | refine Below.setCell ?_ (by dsimp only; omega) _ | refine Below.drew ?_))); have hzwl : wk.heap.size ≤ wl.heap.size := HK.out.size; (first | (have T := hid (two_to T.out hbk)) | (have T := hid (two_to (two_new _ 0) hbk)) | (have T := hid (two_to (two_drew (two_new _ 0)) hbk)) | skip); (try (have t0 := T.out.c0; have t1 := T.out.c1; have t2 := T.out.f0; have t3 := T.out.f1)); clear hbk))
  ·
    go_wp2_with fail
    refine (text_walk x _ hx.out).mono ?_
    rintro e w22 ⟨⟨xs, hxs, rfl⟩, hb⟩
    have M22 := hid (show Below wk.heap.size wk w22 from (by refine btr ?_ hb; repeat (first | exact HK.out | exact Below.refl _ _ | refine bal ?_ _ | refine Below.setCell ?_ (by dsimp only; omega) _ | refine Below.drew ?_)))
    first | have Bo := hid ((two_bx T.out 0).to hb) | have Bo := hid ((bx_new wl (hiW 0) (loW 0) 33).to hb)
    have L22 := hid (btr L20.out M22.out)
    have Ba := hid (Ba.out.to M22.out)
    have Bx1 := hid (Bx1.out.to M22.out)
    clear hb HK M22 L20 x0 x1 x2
    try clear T t0 t1 t2 t3
    go_wp2_with fail
    refine (FP.out xs _ hxs).mono ?_
    rintro e w23 ⟨rfl, hb⟩
    have L23 := hid (bal (btr L22.out hb) (.cells #[.int .u64 (hiW x), .int .u64 (loW x)] 33))
    have Ba := hid ((Ba.out.to hb).alloc (.cells #[.int .u64 (hiW x), .int .u64 (loW x)] 33))
    have Bx1 := hid ((Bx1.out.to hb).alloc (.cells #[.int .u64 (hiW x), .int .u64 (loW x)] 33))
    have Bo := hid ((Bo.out.to hb).alloc (.cells #[.int .u64 (hiW x), .int .u64 (loW x)] 33))
    have Bg := hid (bx_new w23 (hiW x) (loW x) 33)
    clear hb L22
    unfold mv
    go_wp2
    obtain ⟨W24, hW24⟩ : ∃ W, w23.alloc (.cells #[.int .u64 (hiW x), .int .u64 (loW x)] 33) = W := ⟨_, rfl⟩
    rw [hW24] at Ba Bx1 Bo Bg L23 ⊢
    clear hW24
    have z1 : sgn 0 = 0 := rfl
    have z2 : hiW 0 = 0 := rfl
    have z3 : loW 0 = 0 := rfl
    clear fa fb fc hE
    rcases hA with ⟨h1, h2, h3⟩ | ⟨h1, h2, h3, h4⟩
    ·
      subst h1 h2 h3
      first | skip; go_region_held3 (fun w' => (w'.cell? ⟨w1.heap.size, 0, none⟩ = some (.int .u64 (hiW x)) ∧ w'.cell? ⟨w1.heap.size, 1, none⟩ = some (.int .u64 (loW x))) ∧ (w'.cell? ⟨wl.heap.size, 0, none⟩ = some (.int .u64 (hiW 0)) ∧ w'.cell? ⟨wl.heap.size, 1, none⟩ = some (.int .u64 (loW 0))) ∧ (w'.cell? ⟨w23.heap.size, 0, none⟩ = some (.int .u64 (hiW x)) ∧ w'.cell? ⟨w23.heap.size, 1, none⟩ = some (.int .u64 (loW x))) ∧ (w'.cell? ⟨w.heap.size, 0, none⟩ = some (.int .u64 (hiW x)) ∧ w'.cell? ⟨w.heap.size, 1, none⟩ = some (.int .u64 (loW x))) ∧ Below W24.heap.size W24 w') (first | exact ⟨⟨Bx1.out.1, Bx1.out.2.1⟩, ⟨Bo.out.1, Bo.out.2.1⟩, ⟨Bg.out.1, Bg.out.2.1⟩, ⟨Ba.out.1, Ba.out.2.1⟩, Below.drew (Below.refl _ _)⟩ | (have hk := HK.out; exact ⟨⟨(Bx1.out.to hk).1, (Bx1.out.to hk).2.1⟩, ⟨(Bo.out.to hk).1, (Bo.out.to hk).2.1⟩, ⟨(Bg.out.to hk).1, (Bg.out.to hk).2.1⟩, ⟨(Ba.out.to hk).1, (Ba.out.to hk).2.1⟩, hk⟩))
        (first
        | (go_at_call 10; refine (words_any _ _ _).mono ?_; rintro e wm ⟨rfl, hbk⟩; have HK := hid (show Below W24.heap.size W24 wm from (by first | exact btr HK.out hbk | exact btr (Below.drew (Below.refl _ _)) hbk)); clear hbk)
        | (go_at_call 13; refine (sign_any 0 _ (by unfold Amt; omega)).mono ?_; rintro e wm ⟨rfl, hbk⟩; have HK := hid (show Below W24.heap.size W24 wm from (by first | exact btr HK.out hbk | exact btr (Below.drew (Below.refl _ _)) hbk)); clear hbk))
            | fail "held"
      all_goals
        go_wp2
        exact bodyPost_ret (v := .bool true) (by simp [results, Try.results4, go_sem]) rfl ⟨rfl, btr L23.out HK.out⟩
    ·
      subst h4; subst h1 h2 h3
      first | skip; go_region_held3 (fun w' => (w'.cell? ⟨w1.heap.size, 0, none⟩ = some (.int .u64 (hiW 0)) ∧ w'.cell? ⟨w1.heap.size, 1, none⟩ = some (.int .u64 (loW 0))) ∧ (w'.cell? ⟨wl.heap.size, 0, none⟩ = some (.int .u64 (hiW 0)) ∧ w'.cell? ⟨wl.heap.size, 1, none⟩ = some (.int .u64 (loW 0))) ∧ (w'.cell? ⟨w23.heap.size, 0, none⟩ = some (.int .u64 (hiW 0)) ∧ w'.cell? ⟨w23.heap.size, 1, none⟩ = some (.int .u64 (loW 0))) ∧ (w'.cell? ⟨w.heap.size, 0, none⟩ = some (.int .u64 9223372036854775808) ∧ w'.cell? ⟨w.heap.size, 1, none⟩ = some (.int .u64 0)) ∧ Below W24.heap.size W24 w') (first | exact ⟨⟨Bx1.out.1, Bx1.out.2.1⟩, ⟨Bo.out.1, Bo.out.2.1⟩, ⟨Bg.out.1, Bg.out.2.1⟩, ⟨Ba.out.1, Ba.out.2.1⟩, Below.drew (Below.refl _ _)⟩ | (have hk := HK.out; exact ⟨⟨(Bx1.out.to hk).1, (Bx1.out.to hk).2.1⟩, ⟨(Bo.out.to hk).1, (Bo.out.to hk).2.1⟩, ⟨(Bg.out.to hk).1, (Bg.out.to hk).2.1⟩, ⟨(Ba.out.to hk).1, (Ba.out.to hk).2.1⟩, hk⟩))
        (first
        | (go_at_call 10; refine (words_any _ _ _).mono ?_; rintro e wm ⟨rfl, hbk⟩; have HK := hid (show Below W24.heap.size W24 wm from (by first | exact btr HK.out hbk | exact btr (Below.drew (Below.refl _ _)) hbk)); clear hbk)
        | (go_at_call 13; refine (sign_any 0 _ (by unfold Amt; omega)).mono ?_; rintro e wm ⟨rfl, hbk⟩; have HK := hid (show Below W24.heap.size W24 wm from (by first | exact btr HK.out hbk | exact btr (Below.drew (Below.refl _ _)) hbk)); clear hbk))
            | fail "held"
      all_goals
        go_wp2
        exact bodyPost_ret (v := .bool true) (by simp [results, Try.results4, go_sem]) rfl ⟨rfl, btr L23.out HK.out⟩
  ·
    go_wp2_with fail
    refine (text_walk x _ hx.out).mono ?_
    rintro e w22 ⟨⟨xs, hxs, rfl⟩, hb⟩
    have M22 := hid (show Below wk.heap.size wk w22 from (by refine btr ?_ hb; repeat (first | exact HK.out | exact Below.refl _ _ | refine bal ?_ _ | refine Below.setCell ?_ (by dsimp only; omega) _ | refine Below.drew ?_)))
    first | have Bo := hid ((two_bx T.out 0).to hb) | have Bo := hid ((bx_new wl (hiW 0) (loW 0) 33).to hb)
    have L22 := hid (btr L20.out M22.out)
    have Ba := hid (Ba.out.to M22.out)
    have Bx1 := hid (Bx1.out.to M22.out)
    clear hb HK M22 L20 x0 x1 x2
    try clear T t0 t1 t2 t3
    go_wp2_with fail
    refine (FP.out xs _ hxs).mono ?_
    rintro e w23 ⟨rfl, hb⟩
    have L23 := hid (bal (btr L22.out hb) (.cells #[.int .u64 (hiW x), .int .u64 (loW x)] 33))
    have Ba := hid ((Ba.out.to hb).alloc (.cells #[.int .u64 (hiW x), .int .u64 (loW x)] 33))
    have Bx1 := hid ((Bx1.out.to hb).alloc (.cells #[.int .u64 (hiW x), .int .u64 (loW x)] 33))
    have Bo := hid ((Bo.out.to hb).alloc (.cells #[.int .u64 (hiW x), .int .u64 (loW x)] 33))
    have Bg := hid (bx_new w23 (hiW x) (loW x) 33)
    clear hb L22
    unfold mv
    go_wp2
    obtain ⟨W24, hW24⟩ : ∃ W, w23.alloc (.cells #[.int .u64 (hiW x), .int .u64 (loW x)] 33) = W := ⟨_, rfl⟩
    rw [hW24] at Ba Bx1 Bo Bg L23 ⊢
    clear hW24
    have z1 : sgn 0 = 0 := rfl
    have z2 : hiW 0 = 0 := rfl
    have z3 : loW 0 = 0 := rfl
    clear fa fb fc hE
    rcases hA with ⟨h1, h2, h3⟩ | ⟨h1, h2, h3, h4⟩
    ·
      subst h1 h2 h3
      first | skip; go_region_held3 (fun w' => (w'.cell? ⟨w1.heap.size, 0, none⟩ = some (.int .u64 (hiW x)) ∧ w'.cell? ⟨w1.heap.size, 1, none⟩ = some (.int .u64 (loW x))) ∧ (w'.cell? ⟨wn.heap.size, 0, none⟩ = some (.int .u64 (hiW 0)) ∧ w'.cell? ⟨wn.heap.size, 1, none⟩ = some (.int .u64 (loW 0))) ∧ (w'.cell? ⟨w23.heap.size, 0, none⟩ = some (.int .u64 (hiW x)) ∧ w'.cell? ⟨w23.heap.size, 1, none⟩ = some (.int .u64 (loW x))) ∧ (w'.cell? ⟨w.heap.size, 0, none⟩ = some (.int .u64 (hiW x)) ∧ w'.cell? ⟨w.heap.size, 1, none⟩ = some (.int .u64 (loW x))) ∧ Below W24.heap.size W24 w') (first | exact ⟨⟨Bx1.out.1, Bx1.out.2.1⟩, ⟨Bo.out.1, Bo.out.2.1⟩, ⟨Bg.out.1, Bg.out.2.1⟩, ⟨Ba.out.1, Ba.out.2.1⟩, Below.drew (Below.refl _ _)⟩ | (have hk := HK.out; exact ⟨⟨(Bx1.out.to hk).1, (Bx1.out.to hk).2.1⟩, ⟨(Bo.out.to hk).1, (Bo.out.to hk).2.1⟩, ⟨(Bg.out.to hk).1, (Bg.out.to hk).2.1⟩, ⟨(Ba.out.to hk).1, (Ba.out.to hk).2.1⟩, hk⟩))
        (first
        | (go_at_call 10; refine (words_any _ _ _).mono ?_; rintro e wm ⟨rfl, hbk⟩; have HK := hid (show Below W24.heap.size W24 wm from (by first | exact btr HK.out hbk | exact btr (Below.drew (Below.refl _ _)) hbk)); clear hbk)
        | (go_at_call 13; refine (sign_any 0 _ (by unfold Amt; omega)).mono ?_; rintro e wm ⟨rfl, hbk⟩; have HK := hid (show Below W24.heap.size W24 wm from (by first | exact btr HK.out hbk | exact btr (Below.drew (Below.refl _ _)) hbk)); clear hbk))
            | fail "held"
      all_goals
        go_wp2
        exact bodyPost_ret (v := .bool true) (by simp [results, Try.results4, go_sem]) rfl ⟨rfl, btr L23.out HK.out⟩
    ·
      subst h4; subst h1 h2 h3
      first | skip; go_region_held3 (fun w' => (w'.cell? ⟨w1.heap.size, 0, none⟩ = some (.int .u64 (hiW 0)) ∧ w'.cell? ⟨w1.heap.size, 1, none⟩ = some (.int .u64 (loW 0))) ∧ (w'.cell? ⟨wn.heap.size, 0, none⟩ = some (.int .u64 (hiW 0)) ∧ w'.cell? ⟨wn.heap.size, 1, none⟩ = some (.int .u64 (loW 0))) ∧ (w'.cell? ⟨w23.heap.size, 0, none⟩ = some (.int .u64 (hiW 0)) ∧ w'.cell? ⟨w23.heap.size, 1, none⟩ = some (.int .u64 (loW 0))) ∧ (w'.cell? ⟨w.heap.size, 0, none⟩ = some (.int .u64 9223372036854775808) ∧ w'.cell? ⟨w.heap.size, 1, none⟩ = some (.int .u64 0)) ∧ Below W24.heap.size W24 w') (first | exact ⟨⟨Bx1.out.1, Bx1.out.2.1⟩, ⟨Bo.out.1, Bo.out.2.1⟩, ⟨Bg.out.1, Bg.out.2.1⟩, ⟨Ba.out.1, Ba.out.2.1⟩, Below.drew (Below.refl _ _)⟩ | (have hk := HK.out; exact ⟨⟨(Bx1.out.to hk).1, (Bx1.out.to hk).2.1⟩, ⟨(Bo.out.to hk).1, (Bo.out.to hk).2.1⟩, ⟨(Bg.out.to hk).1, (Bg.out.to hk).2.1⟩, ⟨(Ba.out.to hk).1, (Ba.out.to hk).2.1⟩, hk⟩))
        (first
        | (go_at_call 10; refine (words_any _ _ _).mono ?_; rintro e wm ⟨rfl, hbk⟩; have HK := hid (show Below W24.heap.size W24 wm from (by first | exact btr HK.out hbk | exact btr (Below.drew (Below.refl _ _)) hbk)); clear hbk)
        | (go_at_call 13; refine (sign_any 0 _ (by unfold Amt; omega)).mono ?_; rintro e wm ⟨rfl, hbk⟩; have HK := hid (show Below W24.heap.size W24 wm from (by first | exact btr HK.out hbk | exact btr (Below.drew (Below.refl _ _)) hbk)); clear hbk))
            | fail "held"
      all_goals
        go_wp2
        exact bodyPost_ret (v := .bool true) (by simp [results, Try.results4, go_sem]) rfl ⟨rfl, btr L23.out HK.out⟩
  ·
    go_wp2_with fail
    refine (text_walk x _ hx.out).mono ?_
    rintro e w22 ⟨⟨xs, hxs, rfl⟩, hb⟩
    have M22 := hid (show Below wk.heap.size wk w22 from (by refine btr ?_ hb; repeat (first | exact HK.out | exact Below.refl _ _ | refine bal ?_ _ | refine Below.setCell ?_ (by dsimp only; omega) _ | refine Below.drew ?_)))
    first | have Bo := hid ((two_bx T.out 0).to hb) | have Bo := hid ((bx_new wl (hiW 0) (loW 0) 33).to hb)
    have L22 := hid (btr L20.out M22.out)
    have Ba := hid (Ba.out.to M22.out)
    have Bx1 := hid (Bx1.out.to M22.out)
    clear hb HK M22 L20 x0 x1 x2
    try clear T t0 t1 t2 t3
    go_wp2_with fail
    refine (FP.out xs _ hxs).mono ?_
    rintro e w23 ⟨rfl, hb⟩
    have L23 := hid (bal (btr L22.out hb) (.cells #[.int .u64 (hiW x), .int .u64 (loW x)] 33))
    have Ba := hid ((Ba.out.to hb).alloc (.cells #[.int .u64 (hiW x), .int .u64 (loW x)] 33))
    have Bx1 := hid ((Bx1.out.to hb).alloc (.cells #[.int .u64 (hiW x), .int .u64 (loW x)] 33))
    have Bo := hid ((Bo.out.to hb).alloc (.cells #[.int .u64 (hiW x), .int .u64 (loW x)] 33))
    have Bg := hid (bx_new w23 (hiW x) (loW x) 33)
    clear hb L22
    unfold mv
    go_wp2
    obtain ⟨W24, hW24⟩ : ∃ W, w23.alloc (.cells #[.int .u64 (hiW x), .int .u64 (loW x)] 33) = W := ⟨_, rfl⟩
    rw [hW24] at Ba Bx1 Bo Bg L23 ⊢
    clear hW24
    have z1 : sgn 0 = 0 := rfl
    have z2 : hiW 0 = 0 := rfl
    have z3 : loW 0 = 0 := rfl
    clear fa fb fc hE
    rcases hA with ⟨h1, h2, h3⟩ | ⟨h1, h2, h3, h4⟩
    ·
      subst h1 h2 h3
      first | skip; go_region_held3 (fun w' => (w'.cell? ⟨w1.heap.size, 0, none⟩ = some (.int .u64 (hiW x)) ∧ w'.cell? ⟨w1.heap.size, 1, none⟩ = some (.int .u64 (loW x))) ∧ (w'.cell? ⟨wk.heap.size, 0, none⟩ = some (.int .u64 (hiW 0)) ∧ w'.cell? ⟨wk.heap.size, 1, none⟩ = some (.int .u64 (loW 0))) ∧ (w'.cell? ⟨w23.heap.size, 0, none⟩ = some (.int .u64 (hiW x)) ∧ w'.cell? ⟨w23.heap.size, 1, none⟩ = some (.int .u64 (loW x))) ∧ (w'.cell? ⟨w.heap.size, 0, none⟩ = some (.int .u64 (hiW x)) ∧ w'.cell? ⟨w.heap.size, 1, none⟩ = some (.int .u64 (loW x))) ∧ Below W24.heap.size W24 w') (first | exact ⟨⟨Bx1.out.1, Bx1.out.2.1⟩, ⟨Bo.out.1, Bo.out.2.1⟩, ⟨Bg.out.1, Bg.out.2.1⟩, ⟨Ba.out.1, Ba.out.2.1⟩, Below.drew (Below.refl _ _)⟩ | (have hk := HK.out; exact ⟨⟨(Bx1.out.to hk).1, (Bx1.out.to hk).2.1⟩, ⟨(Bo.out.to hk).1, (Bo.out.to hk).2.1⟩, ⟨(Bg.out.to hk).1, (Bg.out.to hk).2.1⟩, ⟨(Ba.out.to hk).1, (Ba.out.to hk).2.1⟩, hk⟩))
        (first
        | (go_at_call 10; refine (words_any _ _ _).mono ?_; rintro e wm ⟨rfl, hbk⟩; have HK := hid (show Below W24.heap.size W24 wm from (by first | exact btr HK.out hbk | exact btr (Below.drew (Below.refl _ _)) hbk)); clear hbk)
        | (go_at_call 13; refine (sign_any 0 _ (by unfold Amt; omega)).mono ?_; rintro e wm ⟨rfl, hbk⟩; have HK := hid (show Below W24.heap.size W24 wm from (by first | exact btr HK.out hbk | exact btr (Below.drew (Below.refl _ _)) hbk)); clear hbk))
            | fail "held"
      all_goals
        go_wp2
        exact bodyPost_ret (v := .bool true) (by simp [results, Try.results4, go_sem]) rfl ⟨rfl, btr L23.out HK.out⟩
    ·
      subst h4; subst h1 h2 h3
      first | skip; go_region_held3 (fun w' => (w'.cell? ⟨w1.heap.size, 0, none⟩ = some (.int .u64 (hiW 0)) ∧ w'.cell? ⟨w1.heap.size, 1, none⟩ = some (.int .u64 (loW 0))) ∧ (w'.cell? ⟨wk.heap.size, 0, none⟩ = some (.int .u64 (hiW 0)) ∧ w'.cell? ⟨wk.heap.size, 1, none⟩ = some (.int .u64 (loW 0))) ∧ (w'.cell? ⟨w23.heap.size, 0, none⟩ = some (.int .u64 (hiW 0)) ∧ w'.cell? ⟨w23.heap.size, 1, none⟩ = some (.int .u64 (loW 0))) ∧ (w'.cell? ⟨w.heap.size, 0, none⟩ = some (.int .u64 9223372036854775808) ∧ w'.cell? ⟨w.heap.size, 1, none⟩ = some (.int .u64 0)) ∧ Below W24.heap.size W24 w') (first | exact ⟨⟨Bx1.out.1, Bx1.out.2.1⟩, ⟨Bo.out.1, Bo.out.2.1⟩, ⟨Bg.out.1, Bg.out.2.1⟩, ⟨Ba.out.1, Ba.out.2.1⟩, Below.drew (Below.refl _ _)⟩ | (have hk := HK.out; exact ⟨⟨(Bx1.out.to hk).1, (Bx1.out.to hk).2.1⟩, ⟨(Bo.out.to hk).1, (Bo.out.to hk).2.1⟩, ⟨(Bg.out.to hk).1, (Bg.out.to hk).2.1⟩, ⟨(Ba.out.to hk).1, (Ba.out.to hk).2.1⟩, hk⟩))
        (first
        | (go_at_call 10; refine (words_any _ _ _).mono ?_; rintro e wm ⟨rfl, hbk⟩; have HK := hid (show Below W24.heap.size W24 wm from (by first | exact btr HK.out hbk | exact btr (Below.drew (Below.refl _ _)) hbk)); clear hbk)
        | (go_at_call 13; refine (sign_any 0 _ (by unfold Amt; omega)).mono ?_; rintro e wm ⟨rfl, hbk⟩; have HK := hid (show Below W24.heap.size W24 wm from (by first | exact btr HK.out hbk | exact btr (Below.drew (Below.refl _ _)) hbk)); clear hbk))
            | fail "held"
      all_goals
        go_wp2
        exact bodyPost_ret (v := .bool true) (by simp [results, Try.results4, go_sem]) rfl ⟨rfl, btr L23.out HK.out⟩
end Go.Proofs.Ytcnbefggobgodab.moneyAdds
