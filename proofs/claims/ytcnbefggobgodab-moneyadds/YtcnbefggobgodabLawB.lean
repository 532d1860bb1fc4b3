/-
  MoneyAdds: amounts add up in any order.
-/
import Derived.Test.YtcnbefggobgodabLawH
import Derived.Deep.DrawnRows
namespace Go.Proofs.Ytcnbefggobgodab.moneyAdds
open Go.RowKit Go.Deep MonM TexM
set_option linter.unusedVariables false
set_option linter.unusedSimpArgs false
attribute [local go_sem ↓] Go.wp_at_zero Go.wp_at_succ

set_option maxHeartbeats 60000000 in
set_option maxRecDepth 100000 in
theorem lawB (A0 A1 B0 B1 C0 C1 x y z Ea Eb Ec : Int) (w : World) (hx : Hid (Amt x)) (hy : Hid (Amt y)) (hz : Hid (Amt z)) (hs : Hid (Amt (maddV x y)))
    (hA : (Ea = 0 ∧ A0 = hiW x ∧ A1 = loW x) ∨ (Ea = 3 ∧ A0 = 9223372036854775808 ∧ A1 = 0 ∧ x = 0))
    (FP : Hid (∀ (xs : List Int) (w : World), IsText x xs → Calls Try.prog 15 #[.string (strOfNums xs)] w fun e w' => e = .returned (.tuple #[mv x, .int .i64 0]) ∧ Below w.heap.size w w'))
    (fa : Hid (∀ w : World, Calls Try.prog 8 #[.agg #[.int .u64 A0, .int .u64 A1]] w fun e w' => e = .returned (.tuple #[mv x, .int .i64 Ea]) ∧ Below w.heap.size w w'))
    (fb : Hid (∀ w : World, Calls Try.prog 8 #[.agg #[.int .u64 B0, .int .u64 B1]] w fun e w' => e = .returned (.tuple #[mv y, .int .i64 Eb]) ∧ Below w.heap.size w w'))
    (fc : Hid (∀ w : World, Calls Try.prog 8 #[.agg #[.int .u64 C0, .int .u64 C1]] w fun e w' => e = .returned (.tuple #[mv z, .int .i64 Ec]) ∧ Below w.heap.size w w'))
    (na : (Ea == 0) = !(A0 == 9223372036854775808 && A1 == 0)) (nb : (Eb == 0) = !(B0 == 9223372036854775808 && B1 == 0)) (nc : (Ec == 0) = !(C0 == 9223372036854775808 && C1 == 0))
    (hE : (maddE x y == 0) = false) :
    Calls Try.prog 4 #[.agg #[.int .u64 A0, .int .u64 A1], .agg #[.int .u64 B0, .int .u64 B1], .agg #[.int .u64 C0, .int .u64 C1]] w fun e w' => e = .returned (.bool true) ∧ Below w.heap.size w w' := by
  have heq := eqArr
  have cm1 : maddV y x = maddV x y := by unfold maddV; rw [Int.add_comm]
  have cm2 : maddE y x = maddE x y := by unfold maddE; rw [Int.add_comm]
  have cc : cmp3 y x = - cmp3 x y := by unfold cmp3; split <;> split <;> omega
  have c1 : -1 ≤ cmp3 x y := by unfold cmp3; split <;> (try split) <;> decide
  have c2 : cmp3 x y ≤ 1 := by unfold cmp3; split <;> (try split) <;> decide
  have cw : IntKind.i64.wrap (cmp3 x y) = cmp3 x y := by rw [wrap_i64]; omega
  unfold mv at fa fb fc
  go_enter Try.func4, Try.ntmps4
  go_wp2_with fail
  refine (fa.out _).mono ?_
  rintro e w1 ⟨rfl, hb1⟩
  have L1 := hid (btr (bal (bal (bal (b0 w) (.cells #[.int .u64 A0, .int .u64 A1] 31)) (.cells #[.int .u64 B0, .int .u64 B1] 31)) (.cells #[.int .u64 C0, .int .u64 C1] 31)) hb1)
  have Ba := hid ((((bx_new w A0 A1 31).alloc (.cells #[.int .u64 B0, .int .u64 B1] 31)).alloc (.cells #[.int .u64 C0, .int .u64 C1] 31)).to hb1)
  have Bb := hid (((bx_new1 w B0 B1 A0 A1 31 31).alloc (.cells #[.int .u64 C0, .int .u64 C1] 31)).to hb1)
  have Bc := hid ((show Bx (((w.alloc (.cells #[.int .u64 A0, .int .u64 A1] 31)).alloc (.cells #[.int .u64 B0, .int .u64 B1] 31)).alloc (.cells #[.int .u64 C0, .int .u64 C1] 31)) (w.heap.size + 1 + 1) C0 C1 from by have h := bx_new1 (w.alloc (.cells #[.int .u64 A0, .int .u64 A1] 31)) C0 C1 B0 B1 31 31; simpa using h).to hb1)
  clear hb1
  obtain ⟨r0, r1, r2⟩ := Bb.out
  go_wp2_with fail
  refine (fb.out _).mono ?_
  rintro e w2 ⟨rfl, hb⟩
  have L2 := hid (btr (bal L1.out _) hb)
  have Ba := hid ((Ba.out.alloc _).to hb)
  have Bb := hid ((Bb.out.alloc _).to hb)
  have Bc := hid ((Bc.out.alloc _).to hb)
  have Bx1 := hid ((bx_new w1 (hiW x) (loW x) 33).to hb)
  clear hb r0 r1 r2
  obtain ⟨r0, r1, r2⟩ := Bc.out
  go_wp2_with fail
  refine (fc.out _).mono ?_
  rintro e w3 ⟨rfl, hb⟩
  have L3 := hid (btr (bal L2.out _) hb)
  have Ba := hid ((Ba.out.alloc _).to hb)
  have Bb := hid ((Bb.out.alloc _).to hb)
  have Bc := hid ((Bc.out.alloc _).to hb)
  have Bx1 := hid ((Bx1.out.alloc _).to hb)
  have By := hid ((bx_new w2 (hiW y) (loW y) 33).to hb)
  clear hb r0 r1 r2
  obtain ⟨a0, a1, a2⟩ := Ba.out
  obtain ⟨c0, c1', c2'⟩ := Bb.out
  obtain ⟨d0, d1, d2⟩ := Bc.out
  have Bz := hid (bx_new w3 (hiW z) (loW z) 33)
  obtain ⟨x0, x1, x2⟩ := Bx1.out
  obtain ⟨y0, y1, y2⟩ := By.out
  have l1 : w.heap.size ≤ w3.heap.size := by omega
  have l2 : w1.heap.size ≤ w3.heap.size := by omega
  have l3 : w2.heap.size ≤ w3.heap.size := by omega
  go_wp2_with fail
  refine (madd_any x y _ hx.out hy.out).mono ?_
  rintro e w4 ⟨rfl, hb⟩
  have L4 := hid (btr (bal (bal L3.out _) _) hb)
  have Ba := hid (((Ba.out.alloc _).alloc _).to hb)
  have Bx1 := hid (((Bx1.out.alloc _).alloc _).to hb)
  have By := hid (((By.out.alloc _).alloc _).to hb)
  have Bz := hid ((Bz.out.alloc _).to hb)
  clear hb a0 a1 a2 c0 c1' c2' d0 d1 d2 x0 x1 x2 y0 y1 y2 l1 l2 l3 na nb nc Bb Bc
  obtain ⟨x0, x1, x2⟩ := Bx1.out
  obtain ⟨y0, y1, y2⟩ := By.out
  unfold mv
  go_wp2_with fail
  refine (madd_any y x _ hy.out hx.out).mono ?_
  rintro e w5 ⟨rfl, hb⟩
  rw [cm1, cm2]
  have L5 := hid (btr (bal L4.out _) hb)
  have Ba := hid ((Ba.out.alloc _).to hb)
  have Bx1 := hid ((Bx1.out.alloc _).to hb)
  have By := hid ((By.out.alloc _).to hb)
  have Bz := hid ((Bz.out.alloc _).to hb)
  have Bs := hid ((bx_new w4 (hiW (maddV x y)) (loW (maddV x y)) 33).to hb)
  have Bt := hid (bx_new w5 (hiW (maddV x y)) (loW (maddV x y)) 33)
  clear hb x0 x1 x2 y0 y1 y2 cm1 cm2
  have Ba := hid (Ba.out.alloc (.cells #[.int .u64 (hiW (maddV x y)), .int .u64 (loW (maddV x y))] 33))
  have Bx1 := hid (Bx1.out.alloc (.cells #[.int .u64 (hiW (maddV x y)), .int .u64 (loW (maddV x y))] 33))
  have By := hid (By.out.alloc (.cells #[.int .u64 (hiW (maddV x y)), .int .u64 (loW (maddV x y))] 33))
  have Bz := hid (Bz.out.alloc (.cells #[.int .u64 (hiW (maddV x y)), .int .u64 (loW (maddV x y))] 33))
  have Bs := hid (Bs.out.alloc (.cells #[.int .u64 (hiW (maddV x y)), .int .u64 (loW (maddV x y))] 33))
  have L5 := hid (bal L5.out (.cells #[.int .u64 (hiW (maddV x y)), .int .u64 (loW (maddV x y))] 33))
  unfold mv
  go_wp2
  obtain ⟨W5, hW5⟩ : ∃ W, w5.alloc (.cells #[.int .u64 (hiW (maddV x y)), .int .u64 (loW (maddV x y))] 33) = W := ⟨_, rfl⟩
  rw [hW5] at Ba Bx1 By Bz Bs Bt L5 ⊢
  clear hW5
  go_region_held3 (fun w' => (w'.cell? ⟨w1.heap.size, 0, none⟩ = some (.int .u64 (hiW x)) ∧ w'.cell? ⟨w1.heap.size, 1, none⟩ = some (.int .u64 (loW x))) ∧ (w'.cell? ⟨w2.heap.size, 0, none⟩ = some (.int .u64 (hiW y)) ∧ w'.cell? ⟨w2.heap.size, 1, none⟩ = some (.int .u64 (loW y))) ∧ (w'.cell? ⟨w4.heap.size, 0, none⟩ = some (.int .u64 (hiW (maddV x y))) ∧ w'.cell? ⟨w4.heap.size, 1, none⟩ = some (.int .u64 (loW (maddV x y)))) ∧ (w'.cell? ⟨w5.heap.size, 0, none⟩ = some (.int .u64 (hiW (maddV x y))) ∧ w'.cell? ⟨w5.heap.size, 1, none⟩ = some (.int .u64 (loW (maddV x y)))) ∧ Below W5.heap.size W5 w') (first | exact ⟨⟨Bx1.out.1, Bx1.out.2.1⟩, ⟨By.out.1, By.out.2.1⟩, ⟨Bs.out.1, Bs.out.2.1⟩, ⟨Bt.out.1, Bt.out.2.1⟩, Below.drew (Below.refl _ _)⟩ | (have hk := HK.out; exact ⟨⟨(Bx1.out.to hk).1, (Bx1.out.to hk).2.1⟩, ⟨(By.out.to hk).1, (By.out.to hk).2.1⟩, ⟨(Bs.out.to hk).1, (Bs.out.to hk).2.1⟩, ⟨(Bt.out.to hk).1, (Bt.out.to hk).2.1⟩, hk⟩))
    (first
      | (go_at_call 10; refine (words_any _ _ _).mono ?_; rintro e wk ⟨rfl, hbk⟩; have HK := hid (show Below W5.heap.size W5 wk from (by first | exact btr HK.out hbk | exact btr (Below.drew (Below.refl _ _)) hbk)); clear hbk)
      | (go_at_call 11; refine (mcompare_any _ _ _ ?_ ?_).mono ?_; (first | exact hx.out | exact hy.out | exact hz.out | exact hs.out); (first | exact hx.out | exact hy.out | exact hz.out | exact hs.out); rintro e wk ⟨rfl, hbk⟩; have HK := hid (show Below W5.heap.size W5 wk from (by first | exact btr HK.out hbk | exact btr (Below.drew (Below.refl _ _)) hbk)); clear hbk))
  have L20 := hid (btr L5.out HK.out)
  have Ba := hid (Ba.out.to HK.out)
  have Bx1 := hid (Bx1.out.to HK.out)
  clear HK Bt By Bz Bs
  have hnx := hid (amt_neg x hx.out)
  have v0 := hid (show maddV x (-x) = 0 by unfold maddV; rw [Int.add_right_neg]; rfl)
  have e0 := hid (show maddE x (-x) = 0 by unfold maddE; rw [Int.add_right_neg]; rfl)
  obtain ⟨x0, x1, x2⟩ := Bx1.out
  go_wp2
  go_region_held3 (fun w' => (w'.cell? ⟨w1.heap.size, 0, none⟩ = some (.int .u64 (hiW x)) ∧ w'.cell? ⟨w1.heap.size, 1, none⟩ = some (.int .u64 (loW x))) ∧ Below wk.heap.size wk w') (exact keepB Bx1.out (by repeat (first | exact HK.out | exact Below.refl _ _ | refine bal ?_ _ | refine Below.setCell ?_ (by dsimp only; omega) _ | refine Below.drew ?_)))
    (first
    | (go_at_call 14; refine (neg_any _ _).mono ?_; rintro e wn ⟨rfl, hbk⟩; have HK := hid (show Below wk.heap.size wk wn from (by refine btr ?_ hbk; repeat (first | exact HK.out | exact Below.refl _ _ | refine bal ?_ _ | refine Below.setCell ?_ (by dsimp only; omega) _ | refine Below.drew ?_))); have hzwn : wk.heap.size ≤ wn.heap.size := HK.out.size; (first | (have T := hid (two_to T.out hbk)) | (have T := hid (two_to (two_new _ 0) hbk)) | (have T := hid (two_to (two_drew (two_new _ 0)) hbk)) | skip); (try (have t0 := T.out.c0; have t1 := T.out.c1; have t2 := T.out.f0; have t3 := T.out.f1)); clear hbk)
    | (go_at_call 9; refine (madd_any x (-x) _ hx.out hnx.out).mono ?_; rintro e wl ⟨rfl, hbk⟩; rw [v0.out, e0.out]; have HK := hid (show Below wk.heap.size wk wl from (by refine btr ?_ hbk; repeat (first | exact HK.out | exact Below.refl _ _ | refine bal ?_ _ | refine Below.setCell ?_ (by dsimp only; omega) _ | refine Below.drew ?_))); have hzwl : wk.heap.size ≤ wl.heap.size := HK.out.size; (first | (have T := hid (two_to T.out hbk)) | (have T := hid (two_to (two_new _ 0) hbk)) | (have T := hid (two_to (two_drew (two_new _ 0)) hbk)) | skip); (try (have t0 := T.out.c0; have t1 := T.out.c1; have t2 := T.out.f0; have t3 := T.out.f1)); clear hbk))
  ·
    go_wp2_with fail
    refine (text_walk x _ hx.out).mono ?_
    rintro e w22 ⟨⟨xs, hxs, rfl⟩, hb⟩
    have M22 := hid (show Below wk.heap.size wk w22 from (by refine btr ?_ hb; repeat (first | exact HK.out | exact Below.refl _ _ | refine bal ?_ _ | refine Below.setCell ?_ (by dsimp only; omega) _ | refine Below.drew ?_)))
    first | have Bo := hid ((two_bx T.out 0).to hb) | have Bo := hid ((bx_new wl (hiW 0) (loW 0) 33).to hb)
    have L22 := hid (btr L20.out M22.out)
    have Ba := hid (Ba.out.to M22.out)
    have Bx1 := hid (Bx1.out.to M22.out)
    clear hb HK M22 L20 x0 x1 x2
    try clear T t0 t1 t2 t3
    go_wp2_with fail
    refine (FP.out xs _ hxs).mono ?_
    rintro e w23 ⟨rfl, hb⟩
    have L23 := hid (bal (btr L22.out hb) (.cells #[.int .u64 (hiW x), .int .u64 (loW x)] 33))
    have Ba := hid ((Ba.out.to hb).alloc (.cells #[.int .u64 (hiW x), .int .u64 (loW x)] 33))
    have Bx1 := hid ((Bx1.out.to hb).alloc (.cells #[.int .u64 (hiW x), .int .u64 (loW x)] 33))
    have Bo := hid ((Bo.out.to hb).alloc (.cells #[.int .u64 (hiW x), .int .u64 (loW x)] 33))
    have Bg := hid (bx_new w23 (hiW x) (loW x) 33)
    clear hb L22
    unfold mv
    go_wp2
    obtain ⟨W24, hW24⟩ : ∃ W, w23.alloc (.cells #[.int .u64 (hiW x), .int .u64 (loW x)] 33) = W := ⟨_, rfl⟩
    rw [hW24] at Ba Bx1 Bo Bg L23 ⊢
    clear hW24
    have z1 : sgn 0 = 0 := rfl
    have z2 : hiW 0 = 0 := rfl
    have z3 : loW 0 = 0 := rfl
    clear fa fb fc hE
    rcases hA with ⟨h1, h2, h3⟩ | ⟨h1, h2, h3, h4⟩
    ·
      subst h1 h2 h3
      refine wp_region_held_drew (S := (fun w' => (w'.cell? ⟨w1.heap.size, 0, none⟩ = some (.int .u64 (hiW x)) ∧ w'.cell? ⟨w1.heap.size, 1, none⟩ = some (.int .u64 (loW x))) ∧ (w'.cell? ⟨wl.heap.size, 0, none⟩ = some (.int .u64 (hiW 0)) ∧ w'.cell? ⟨wl.heap.size, 1, none⟩ = some (.int .u64 (loW 0))) ∧ (w'.cell? ⟨w23.heap.size, 0, none⟩ = some (.int .u64 (hiW x)) ∧ w'.cell? ⟨w23.heap.size, 1, none⟩ = some (.int .u64 (loW x))) ∧ (w'.cell? ⟨w.heap.size, 0, none⟩ = some (.int .u64 (hiW x)) ∧ w'.cell? ⟨w.heap.size, 1, none⟩ = some (.int .u64 (loW x))) ∧ Below W24.heap.size W24 w')) (by kernel_rfl) ?_ (fun hHeld => ?_)
      · (try dsimp only); (first | exact ⟨⟨Bx1.out.1, Bx1.out.2.1⟩, ⟨Bo.out.1, Bo.out.2.1⟩, ⟨Bg.out.1, Bg.out.2.1⟩, ⟨Ba.out.1, Ba.out.2.1⟩, Below.drew (Below.refl _ _)⟩ | (have hk := HK.out; exact ⟨⟨(Bx1.out.to hk).1, (Bx1.out.to hk).2.1⟩, ⟨(Bo.out.to hk).1, (Bo.out.to hk).2.1⟩, ⟨(Bg.out.to hk).1, (Bg.out.to hk).2.1⟩, ⟨(Ba.out.to hk).1, (Ba.out.to hk).2.1⟩, hk⟩))
      refine' wpAnyH_take (i := 0) (oi := _) (v := _) rfl (by kernel_rfl) (by kernel_rfl) (by kernel_rfl) (fun _ _ _ h => h) (Or.inl ⟨by kernel_rfl, ?hyq1⟩) (by assumption) ?restq1
      case hyq1 => (intro w hSw; (try dsimp only at hSw); go_simp; try (with_reducible rfl))
      try simp only [List.getElem_toArray, List.getElem_cons_succ, List.getElem_cons_zero, Act.put, List.setIfInBounds_toArray, List.set_cons_zero, List.set_cons_succ]
      refine' wpAnyH_take (i := 1) (oi := _) (v := _) rfl (by kernel_rfl) (by kernel_rfl) (by kernel_rfl) (fun _ _ _ h => h) (Or.inl ⟨by kernel_rfl, ?hyq2⟩) (by assumption) ?restq2
      case hyq2 => (intro w hSw; (try dsimp only at hSw); go_simp; try (with_reducible rfl))
      try simp only [List.getElem_toArray, List.getElem_cons_succ, List.getElem_cons_zero, Act.put, List.setIfInBounds_toArray, List.set_cons_zero, List.set_cons_succ]
      refine' wpAnyH_take (i := 2) (oi := _) (v := _) rfl (by kernel_rfl) (by kernel_rfl) (by kernel_rfl) (fun _ _ _ h => h) (Or.inl ⟨by kernel_rfl, ?hyq3⟩) (by assumption) ?restq3
      case hyq3 => (intro w hSw; (try dsimp only at hSw); go_simp; try (with_reducible rfl))
      try simp only [List.getElem_toArray, List.getElem_cons_succ, List.getElem_cons_zero, Act.put, List.setIfInBounds_toArray, List.set_cons_zero, List.set_cons_succ]
      refine' wpAnyH_take (i := 3) (oi := _) (v := _) rfl (by kernel_rfl) (by kernel_rfl) (by kernel_rfl) (fun _ _ _ h => h) (Or.inl ⟨by kernel_rfl, ?hyq4⟩) (by assumption) ?restq4
      case hyq4 => (intro w hSw; (try dsimp only at hSw); go_simp; try (with_reducible rfl))
      try simp only [List.getElem_toArray, List.getElem_cons_succ, List.getElem_cons_zero, Act.put, List.setIfInBounds_toArray, List.set_cons_zero, List.set_cons_succ]
      refine wpAnyH_ready (rs := [4]) (by kernel_rfl) (by simp) ?_
      refine AllReadyH.cons (o := _) rfl (fun K hK => ?_) AllReadyH.nil
      go_simp
      refine (sign_any 0 _ (by unfold Amt; omega)).mono ?_; rintro e wm ⟨rfl, hbk⟩; have HK := hid (show Below W24.heap.size W24 wm from (by first | exact btr HK.out hbk | exact btr (Below.drew (Below.refl _ _)) hbk)); clear hbk
      (try go_wp2_with fail)
      refine hK.out _ _ ?_ (fun hHeld => ?_)
      · (try dsimp only); (first | exact ⟨⟨Bx1.out.1, Bx1.out.2.1⟩, ⟨Bo.out.1, Bo.out.2.1⟩, ⟨Bg.out.1, Bg.out.2.1⟩, ⟨Ba.out.1, Ba.out.2.1⟩, Below.drew (Below.refl _ _)⟩ | (have hk := HK.out; exact ⟨⟨(Bx1.out.to hk).1, (Bx1.out.to hk).2.1⟩, ⟨(Bo.out.to hk).1, (Bo.out.to hk).2.1⟩, ⟨(Bg.out.to hk).1, (Bg.out.to hk).2.1⟩, ⟨(Ba.out.to hk).1, (Ba.out.to hk).2.1⟩, hk⟩))
      clear hK K
      try simp only [List.getElem_toArray, List.getElem_cons_succ, List.getElem_cons_zero, Act.put, List.setIfInBounds_toArray, List.set_cons_zero, List.set_cons_succ]
      refine' wpAnyH_take (i := 5) (oi := _) (v := _) rfl (by kernel_rfl) (by kernel_rfl) (by kernel_rfl) (fun _ _ _ h => h) (Or.inl ⟨by kernel_rfl, ?hyq5⟩) (by assumption) ?restq5
      case hyq5 => (intro w hSw; (try dsimp only at hSw); go_simp; try (with_reducible rfl))
      try simp only [List.getElem_toArray, List.getElem_cons_succ, List.getElem_cons_zero, Act.put, List.setIfInBounds_toArray, List.set_cons_zero, List.set_cons_succ]
      refine' wpAnyH_take (i := 6) (oi := _) (v := _) rfl (by kernel_rfl) (by kernel_rfl) (by kernel_rfl) (fun _ _ _ h => h) (Or.inl ⟨by kernel_rfl, ?hyq6⟩) (by assumption) ?restq6
      case hyq6 => (intro w hSw; (try dsimp only at hSw); go_simp; try (with_reducible rfl))
      try simp only [List.getElem_toArray, List.getElem_cons_succ, List.getElem_cons_zero, Act.put, List.setIfInBounds_toArray, List.set_cons_zero, List.set_cons_succ]
      refine' wpAnyH_take (i := 7) (oi := _) (v := _) rfl (by kernel_rfl) (by kernel_rfl) (by kernel_rfl) (fun _ _ _ h => h) (Or.inl ⟨by kernel_rfl, ?hyq7⟩) (by assumption) ?restq7
      case hyq7 => (intro w hSw; (try dsimp only at hSw); go_simp; try (with_reducible rfl))
      try simp only [List.getElem_toArray, List.getElem_cons_succ, List.getElem_cons_zero, Act.put, List.setIfInBounds_toArray, List.set_cons_zero, List.set_cons_succ]
      refine' wpAnyH_take (i := 8) (oi := _) (v := _) rfl (by kernel_rfl) (by kernel_rfl) (by kernel_rfl) (fun _ _ _ h => h) (Or.inl ⟨by kernel_rfl, ?hyq8⟩) (by assumption) ?restq8
      case hyq8 => (intro w hSw; (try dsimp only at hSw); go_simp; try (with_reducible rfl))
      try simp only [List.getElem_toArray, List.getElem_cons_succ, List.getElem_cons_zero, Act.put, List.setIfInBounds_toArray, List.set_cons_zero, List.set_cons_succ]
      refine' wpAnyH_take (i := 9) (oi := _) (v := _) rfl (by kernel_rfl) (by kernel_rfl) (by kernel_rfl) (fun _ _ _ h => h) (Or.inl ⟨by kernel_rfl, ?hyq9⟩) (by assumption) ?restq9
      case hyq9 => (intro w hSw; (try dsimp only at hSw); go_simp; try (with_reducible rfl))
      try simp only [List.getElem_toArray, List.getElem_cons_succ, List.getElem_cons_zero, Act.put, List.setIfInBounds_toArray, List.set_cons_zero, List.set_cons_succ]
      refine' wpAnyH_take (i := 10) (oi := _) (v := _) rfl (by kernel_rfl) (by kernel_rfl) (by kernel_rfl) (fun _ _ _ h => h) (Or.inl ⟨by kernel_rfl, ?hyq10⟩) (by assumption) ?restq10
      case hyq10 => (intro w hSw; (try dsimp only at hSw); go_simp; try (with_reducible rfl))
      try simp only [List.getElem_toArray, List.getElem_cons_succ, List.getElem_cons_zero, Act.put, List.setIfInBounds_toArray, List.set_cons_zero, List.set_cons_succ]
      refine' wpAnyH_take (i := 11) (oi := _) (v := _) rfl (by kernel_rfl) (by kernel_rfl) (by kernel_rfl) (fun _ _ _ h => h) (Or.inl ⟨by kernel_rfl, ?hyq11⟩) (by assumption) ?restq11
      case hyq11 => (intro w hSw; (try dsimp only at hSw); go_simp; try (with_reducible rfl))
      try simp only [List.getElem_toArray, List.getElem_cons_succ, List.getElem_cons_zero, Act.put, List.setIfInBounds_toArray, List.set_cons_zero, List.set_cons_succ]
      refine' wpAnyH_take (i := 12) (oi := _) (v := _) rfl (by kernel_rfl) (by kernel_rfl) (by kernel_rfl) (fun _ _ _ h => h) (Or.inl ⟨by kernel_rfl, ?hyq12⟩) (by assumption) ?restq12
      case hyq12 => (intro w hSw; (try dsimp only at hSw); go_simp; try (with_reducible rfl))
      try simp only [List.getElem_toArray, List.getElem_cons_succ, List.getElem_cons_zero, Act.put, List.setIfInBounds_toArray, List.set_cons_zero, List.set_cons_succ]
      refine' wpAnyH_take (i := 14) (oi := _) (v := _) rfl (by kernel_rfl) (by kernel_rfl) (by kernel_rfl) (fun _ _ _ h => h) (Or.inl ⟨by kernel_rfl, ?hyq13⟩) (by assumption) ?restq13
      case hyq13 => (intro w hSw; (try dsimp only at hSw); go_simp; try (with_reducible rfl))
      try simp only [List.getElem_toArray, List.getElem_cons_succ, List.getElem_cons_zero, Act.put, List.setIfInBounds_toArray, List.set_cons_zero, List.set_cons_succ]
      refine wpAnyH_ready (rs := [13]) (by kernel_rfl) (by simp) ?_
      refine AllReadyH.cons (o := _) rfl (fun K hK => ?_) AllReadyH.nil
      go_simp
      refine (words_any _ _ _).mono ?_; rintro e wm ⟨rfl, hbk⟩; have HK := hid (show Below W24.heap.size W24 wm from (by first | exact btr HK.out hbk | exact btr (Below.drew (Below.refl _ _)) hbk)); clear hbk
      (try go_wp2_with fail)
      refine hK.out _ _ ?_ (fun hHeld => ?_)
      · (try dsimp only); (first | exact ⟨⟨Bx1.out.1, Bx1.out.2.1⟩, ⟨Bo.out.1, Bo.out.2.1⟩, ⟨Bg.out.1, Bg.out.2.1⟩, ⟨Ba.out.1, Ba.out.2.1⟩, Below.drew (Below.refl _ _)⟩ | (have hk := HK.out; exact ⟨⟨(Bx1.out.to hk).1, (Bx1.out.to hk).2.1⟩, ⟨(Bo.out.to hk).1, (Bo.out.to hk).2.1⟩, ⟨(Bg.out.to hk).1, (Bg.out.to hk).2.1⟩, ⟨(Ba.out.to hk).1, (Ba.out.to hk).2.1⟩, hk⟩))
      clear hK K
      try simp only [List.getElem_toArray, List.getElem_cons_succ, List.getElem_cons_zero, Act.put, List.setIfInBounds_toArray, List.set_cons_zero, List.set_cons_succ]
      refine wpAnyH_ready (rs := [15]) (by kernel_rfl) (by simp) ?_
      refine AllReadyH.cons (o := _) rfl (fun K hK => ?_) AllReadyH.nil
      go_simp
      refine (words_any _ _ _).mono ?_; rintro e wm ⟨rfl, hbk⟩; have HK := hid (show Below W24.heap.size W24 wm from (by first | exact btr HK.out hbk | exact btr (Below.drew (Below.refl _ _)) hbk)); clear hbk
      (try go_wp2_with fail)
      refine hK.out _ _ ?_ (fun hHeld => ?_)
      · (try dsimp only); (first | exact ⟨⟨Bx1.out.1, Bx1.out.2.1⟩, ⟨Bo.out.1, Bo.out.2.1⟩, ⟨Bg.out.1, Bg.out.2.1⟩, ⟨Ba.out.1, Ba.out.2.1⟩, Below.drew (Below.refl _ _)⟩ | (have hk := HK.out; exact ⟨⟨(Bx1.out.to hk).1, (Bx1.out.to hk).2.1⟩, ⟨(Bo.out.to hk).1, (Bo.out.to hk).2.1⟩, ⟨(Bg.out.to hk).1, (Bg.out.to hk).2.1⟩, ⟨(Ba.out.to hk).1, (Ba.out.to hk).2.1⟩, hk⟩))
      clear hK K
      try simp only [List.getElem_toArray, List.getElem_cons_succ, List.getElem_cons_zero, Act.put, List.setIfInBounds_toArray, List.set_cons_zero, List.set_cons_succ]
      refine' wpAnyH_take (i := 16) (oi := _) (v := _) rfl (by kernel_rfl) (by kernel_rfl) (by kernel_rfl) (fun _ _ _ h => h) (Or.inl ⟨by kernel_rfl, ?hyq14⟩) (by assumption) ?restq14
      case hyq14 => (intro w hSw; (try dsimp only at hSw); go_simp; try (with_reducible rfl))
      try simp only [List.getElem_toArray, List.getElem_cons_succ, List.getElem_cons_zero, Act.put, List.setIfInBounds_toArray, List.set_cons_zero, List.set_cons_succ]
      refine' wpAnyH_take (i := 17) (oi := _) (v := _) rfl (by kernel_rfl) (by kernel_rfl) (by kernel_rfl) (fun _ _ _ h => h) (Or.inl ⟨by kernel_rfl, ?hyq15⟩) (by assumption) ?restq15
      case hyq15 => (intro w hSw; (try dsimp only at hSw); go_simp; try (with_reducible rfl))
      try simp only [List.getElem_toArray, List.getElem_cons_succ, List.getElem_cons_zero, Act.put, List.setIfInBounds_toArray, List.set_cons_zero, List.set_cons_succ]
      refine' wpAnyH_take (i := 18) (oi := _) (v := _) rfl (by kernel_rfl) (by kernel_rfl) (by kernel_rfl) (fun _ _ _ h => h) (Or.inl ⟨by kernel_rfl, ?hyq16⟩) (by assumption) ?restq16
      case hyq16 => (intro w hSw; (try dsimp only at hSw); go_simp; try (with_reducible rfl))
      try simp only [List.getElem_toArray, List.getElem_cons_succ, List.getElem_cons_zero, Act.put, List.setIfInBounds_toArray, List.set_cons_zero, List.set_cons_succ]
      refine' wpAnyH_take (i := 19) (oi := _) (v := _) rfl (by kernel_rfl) (by kernel_rfl) (by kernel_rfl) (fun _ _ _ h => h) (Or.inl ⟨by kernel_rfl, ?hyq17⟩) (by assumption) ?restq17
      case hyq17 => (intro w hSw; (try dsimp only at hSw); go_simp; try (with_reducible rfl))
      try simp only [List.getElem_toArray, List.getElem_cons_succ, List.getElem_cons_zero, Act.put, List.setIfInBounds_toArray, List.set_cons_zero, List.set_cons_succ]
      refine' wpAnyH_take (i := 21) (oi := _) (v := _) rfl (by kernel_rfl) (by kernel_rfl) (by kernel_rfl) (fun _ _ _ h => h) (Or.inl ⟨by kernel_rfl, ?hyq18⟩) (by assumption) ?restq18
      case hyq18 => (intro w hSw; (try dsimp only at hSw); go_simp; try (with_reducible rfl))
      try simp only [List.getElem_toArray, List.getElem_cons_succ, List.getElem_cons_zero, Act.put, List.setIfInBounds_toArray, List.set_cons_zero, List.set_cons_succ]
      refine' wpAnyH_take (i := 23) (oi := _) (v := _) rfl (by kernel_rfl) (by kernel_rfl) (by kernel_rfl) (fun _ _ _ h => h) (Or.inl ⟨by kernel_rfl, ?hyq19⟩) (by assumption) ?restq19
      case hyq19 => (intro w hSw; (try dsimp only at hSw); go_simp; try (with_reducible rfl))
      try simp only [List.getElem_toArray, List.getElem_cons_succ, List.getElem_cons_zero, Act.put, List.setIfInBounds_toArray, List.set_cons_zero, List.set_cons_succ]
      refine' wpAnyH_take (i := 24) (oi := _) (v := _) rfl (by kernel_rfl) (by kernel_rfl) (by kernel_rfl) (fun _ _ _ h => h) (Or.inl ⟨by kernel_rfl, ?hyq20⟩) (by assumption) ?restq20
      case hyq20 => (intro w hSw; (try dsimp only at hSw); go_simp; try (with_reducible rfl))
      try simp only [List.getElem_toArray, List.getElem_cons_succ, List.getElem_cons_zero, Act.put, List.setIfInBounds_toArray, List.set_cons_zero, List.set_cons_succ]
      refine wpAnyH_ready (rs := [20]) (by kernel_rfl) (by simp) ?_
      refine AllReadyH.cons (o := _) rfl (fun K hK => ?_) AllReadyH.nil
      go_simp
      refine (words_any _ _ _).mono ?_; rintro e wm ⟨rfl, hbk⟩; have HK := hid (show Below W24.heap.size W24 wm from (by first | exact btr HK.out hbk | exact btr (Below.drew (Below.refl _ _)) hbk)); clear hbk
      (try go_wp2_with fail)
      refine hK.out _ _ ?_ (fun hHeld => ?_)
      · (try dsimp only); (first | exact ⟨⟨Bx1.out.1, Bx1.out.2.1⟩, ⟨Bo.out.1, Bo.out.2.1⟩, ⟨Bg.out.1, Bg.out.2.1⟩, ⟨Ba.out.1, Ba.out.2.1⟩, Below.drew (Below.refl _ _)⟩ | (have hk := HK.out; exact ⟨⟨(Bx1.out.to hk).1, (Bx1.out.to hk).2.1⟩, ⟨(Bo.out.to hk).1, (Bo.out.to hk).2.1⟩, ⟨(Bg.out.to hk).1, (Bg.out.to hk).2.1⟩, ⟨(Ba.out.to hk).1, (Ba.out.to hk).2.1⟩, hk⟩))
      clear hK K
      try simp only [List.getElem_toArray, List.getElem_cons_succ, List.getElem_cons_zero, Act.put, List.setIfInBounds_toArray, List.set_cons_zero, List.set_cons_succ]
      refine' wpAnyH_take (i := 22) (oi := _) (v := _) rfl (by kernel_rfl) (by kernel_rfl) (by kernel_rfl) (fun _ _ _ h => h) (Or.inl ⟨by kernel_rfl, ?hyq21⟩) (by assumption) ?restq21
      case hyq21 => (intro w hSw; (try dsimp only at hSw); go_simp; try (with_reducible rfl))
      try simp only [List.getElem_toArray, List.getElem_cons_succ, List.getElem_cons_zero, Act.put, List.setIfInBounds_toArray, List.set_cons_zero, List.set_cons_succ]
      refine' wpAnyH_take (i := 25) (oi := _) (v := _) rfl (by kernel_rfl) (by kernel_rfl) (by kernel_rfl) (fun _ _ _ h => h) (Or.inl ⟨by kernel_rfl, ?hyq22⟩) (by assumption) ?restq22
      case hyq22 => (intro w hSw; (try dsimp only at hSw); go_simp; try (with_reducible rfl))
      try simp only [List.getElem_toArray, List.getElem_cons_succ, List.getElem_cons_zero, Act.put, List.setIfInBounds_toArray, List.set_cons_zero, List.set_cons_succ]
      refine' wpAnyH_take (i := 26) (oi := _) (v := undef) rfl (by kernel_rfl) (by kernel_rfl) (by kernel_rfl) (fun _ _ _ h => h) (Or.inr ⟨by kernel_rfl, rfl⟩) (by assumption) ?restq23
      try simp only [List.getElem_toArray, List.getElem_cons_succ, List.getElem_cons_zero, Act.put, List.setIfInBounds_toArray, List.set_cons_zero, List.set_cons_succ]
      refine' wpAnyH_take (i := 27) (oi := _) (v := undef) rfl (by kernel_rfl) (by kernel_rfl) (by kernel_rfl) (fun _ _ _ h => h) (Or.inr ⟨by kernel_rfl, rfl⟩) (by assumption) ?restq24
      try simp only [List.getElem_toArray, List.getElem_cons_succ, List.getElem_cons_zero, Act.put, List.setIfInBounds_toArray, List.set_cons_zero, List.set_cons_succ]
      refine' wpAnyH_take (i := 28) (oi := _) (v := undef) rfl (by kernel_rfl) (by kernel_rfl) (by kernel_rfl) (fun _ _ _ h => h) (Or.inr ⟨by kernel_rfl, rfl⟩) (by assumption) ?restq25
      try simp only [List.getElem_toArray, List.getElem_cons_succ, List.getElem_cons_zero, Act.put, List.setIfInBounds_toArray, List.set_cons_zero, List.set_cons_succ]
      refine' wpAnyH_take (i := 29) (oi := _) (v := _) rfl (by kernel_rfl) (by kernel_rfl) (by kernel_rfl) (fun _ _ _ h => h) (Or.inl ⟨by kernel_rfl, ?hyq26⟩) (by assumption) ?restq26
      case hyq26 => (intro w hSw; (try dsimp only at hSw); go_simp; try (with_reducible rfl))
      try simp only [List.getElem_toArray, List.getElem_cons_succ, List.getElem_cons_zero, Act.put, List.setIfInBounds_toArray, List.set_cons_zero, List.set_cons_succ]
      refine' wpAnyH_take (i := 30) (oi := _) (v := _) rfl (by kernel_rfl) (by kernel_rfl) (by kernel_rfl) (fun _ _ _ h => h) (Or.inl ⟨by kernel_rfl, ?hyq27⟩) (by assumption) ?restq27
      case hyq27 => (intro w hSw; (try dsimp only at hSw); go_simp; try (with_reducible rfl))
      try simp only [List.getElem_toArray, List.getElem_cons_succ, List.getElem_cons_zero, Act.put, List.setIfInBounds_toArray, List.set_cons_zero, List.set_cons_succ]
      refine' wpAnyH_take (i := 31) (oi := _) (v := _) rfl (by kernel_rfl) (by kernel_rfl) (by kernel_rfl) (fun _ _ _ h => h) (Or.inl ⟨by kernel_rfl, ?hyq28⟩) (by assumption) ?restq28
      case hyq28 => (intro w hSw; (try dsimp only at hSw); go_simp; try (with_reducible rfl))
      try simp only [List.getElem_toArray, List.getElem_cons_succ, List.getElem_cons_zero, Act.put, List.setIfInBounds_toArray, List.set_cons_zero, List.set_cons_succ]
      refine' wpAnyH_take (i := 32) (oi := _) (v := _) rfl (by kernel_rfl) (by kernel_rfl) (by kernel_rfl) (fun _ _ _ h => h) (Or.inl ⟨by kernel_rfl, ?hyq29⟩) (by assumption) ?restq29
      case hyq29 => (intro w hSw; (try dsimp only at hSw); go_simp; try (with_reducible rfl))
      try simp only [List.getElem_toArray, List.getElem_cons_succ, List.getElem_cons_zero, Act.put, List.setIfInBounds_toArray, List.set_cons_zero, List.set_cons_succ]
      refine wpAnyH_done (by kernel_rfl) ?_ _
      all_goals
        go_wp2
        exact bodyPost_ret (v := .bool true) (by simp [results, Try.results4, go_sem]) rfl ⟨rfl, btr L23.out HK.out⟩
    ·
      subst h4; subst h1 h2 h3
      first | skip; go_region_held3 (fun w' => (w'.cell? ⟨w1.heap.size, 0, none⟩ = some (.int .u64 (hiW 0)) ∧ w'.cell? ⟨w1.heap.size, 1, none⟩ = some (.int .u64 (loW 0))) ∧ (w'.cell? ⟨wl.heap.size, 0, none⟩ = some (.int .u64 (hiW 0)) ∧ w'.cell? ⟨wl.heap.size, 1, none⟩ = some (.int .u64 (loW 0))) ∧ (w'.cell? ⟨w23.heap.size, 0, none⟩ = some (.int .u64 (hiW 0)) ∧ w'.cell? ⟨w23.heap.size, 1, none⟩ = some (.int .u64 (loW 0))) ∧ (w'.cell? ⟨w.heap.size, 0, none⟩ = some (.int .u64 9223372036854775808) ∧ w'.cell? ⟨w.heap.size, 1, none⟩ = some (.int .u64 0)) ∧ Below W24.heap.size W24 w') (first | exact ⟨⟨Bx1.out.1, Bx1.out.2.1⟩, ⟨Bo.out.1, Bo.out.2.1⟩, ⟨Bg.out.1, Bg.out.2.1⟩, ⟨Ba.out.1, Ba.out.2.1⟩, Below.drew (Below.refl _ _)⟩ | (have hk := HK.out; exact ⟨⟨(Bx1.out.to hk).1, (Bx1.out.to hk).2.1⟩, ⟨(Bo.out.to hk).1, (Bo.out.to hk).2.1⟩, ⟨(Bg.out.to hk).1, (Bg.out.to hk).2.1⟩, ⟨(Ba.out.to hk).1, (Ba.out.to hk).2.1⟩, hk⟩))
        (first
        | (go_at_call 10; refine (words_any _ _ _).mono ?_; rintro e wm ⟨rfl, hbk⟩; have HK := hid (show Below W24.heap.size W24 wm from (by first | exact btr HK.out hbk | exact btr (Below.drew (Below.refl _ _)) hbk)); clear hbk)
        | (go_at_call 13; refine (sign_any 0 _ (by unfold Amt; omega)).mono ?_; rintro e wm ⟨rfl, hbk⟩; have HK := hid (show Below W24.heap.size W24 wm from (by first | exact btr HK.out hbk | exact btr (Below.drew (Below.refl _ _)) hbk)); clear hbk))
            | fail "held"
      all_goals
        go_wp2
        exact bodyPost_ret (v := .bool true) (by simp [results, Try.results4, go_sem]) rfl ⟨rfl, btr L23.out HK.out⟩
  ·
    go_wp2_with fail
    refine (text_walk x _ hx.out).mono ?_
    rintro e w22 ⟨⟨xs, hxs, rfl⟩, hb⟩
    have M22 := hid (show Below wk.heap.size wk w22 from (by refine btr ?_ hb; repeat (first | exact HK.out | exact Below.refl _ _ | refine bal ?_ _ | refine Below.setCell ?_ (by dsimp only; omega) _ | refine Below.drew ?_)))
    first | have Bo := hid ((two_bx T.out 0).to hb) | have Bo := hid ((bx_new wl (hiW 0) (loW 0) 33).to hb)
    have L22 := hid (btr L20.out M22.out)
    have Ba := hid (Ba.out.to M22.out)
    have Bx1 := hid (Bx1.out.to M22.out)
    clear hb HK M22 L20 x0 x1 x2
    try clear T t0 t1 t2 t3
    go_wp2_with fail
    refine (FP.out xs _ hxs).mono ?_
    rintro e w23 ⟨rfl, hb⟩
    have L23 := hid (bal (btr L22.out hb) (.cells #[.int .u64 (hiW x), .int .u64 (loW x)] 33))
    have Ba := hid ((Ba.out.to hb).alloc (.cells #[.int .u64 (hiW x), .int .u64 (loW x)] 33))
    have Bx1 := hid ((Bx1.out.to hb).alloc (.cells #[.int .u64 (hiW x), .int .u64 (loW x)] 33))
    have Bo := hid ((Bo.out.to hb).alloc (.cells #[.int .u64 (hiW x), .int .u64 (loW x)] 33))
    have Bg := hid (bx_new w23 (hiW x) (loW x) 33)
    clear hb L22
    unfold mv
    go_wp2
    obtain ⟨W24, hW24⟩ : ∃ W, w23.alloc (.cells #[.int .u64 (hiW x), .int .u64 (loW x)] 33) = W := ⟨_, rfl⟩
    rw [hW24] at Ba Bx1 Bo Bg L23 ⊢
    clear hW24
    have z1 : sgn 0 = 0 := rfl
    have z2 : hiW 0 = 0 := rfl
    have z3 : loW 0 = 0 := rfl
    clear fa fb fc hE
    rcases hA with ⟨h1, h2, h3⟩ | ⟨h1, h2, h3, h4⟩
    ·
      subst h1 h2 h3
      refine wp_region_held_drew (S := (fun w' => (w'.cell? ⟨w1.heap.size, 0, none⟩ = some (.int .u64 (hiW x)) ∧ w'.cell? ⟨w1.heap.size, 1, none⟩ = some (.int .u64 (loW x))) ∧ (w'.cell? ⟨wn.heap.size, 0, none⟩ = some (.int .u64 (hiW 0)) ∧ w'.cell? ⟨wn.heap.size, 1, none⟩ = some (.int .u64 (loW 0))) ∧ (w'.cell? ⟨w23.heap.size, 0, none⟩ = some (.int .u64 (hiW x)) ∧ w'.cell? ⟨w23.heap.size, 1, none⟩ = some (.int .u64 (loW x))) ∧ (w'.cell? ⟨w.heap.size, 0, none⟩ = some (.int .u64 (hiW x)) ∧ w'.cell? ⟨w.heap.size, 1, none⟩ = some (.int .u64 (loW x))) ∧ Below W24.heap.size W24 w')) (by kernel_rfl) ?_ (fun hHeld => ?_)
      · (try dsimp only); (first | exact ⟨⟨Bx1.out.1, Bx1.out.2.1⟩, ⟨Bo.out.1, Bo.out.2.1⟩, ⟨Bg.out.1, Bg.out.2.1⟩, ⟨Ba.out.1, Ba.out.2.1⟩, Below.drew (Below.refl _ _)⟩ | (have hk := HK.out; exact ⟨⟨(Bx1.out.to hk).1, (Bx1.out.to hk).2.1⟩, ⟨(Bo.out.to hk).1, (Bo.out.to hk).2.1⟩, ⟨(Bg.out.to hk).1, (Bg.out.to hk).2.1⟩, ⟨(Ba.out.to hk).1, (Ba.out.to hk).2.1⟩, hk⟩))
      refine' wpAnyH_take (i := 0) (oi := _) (v := _) rfl (by kernel_rfl) (by kernel_rfl) (by kernel_rfl) (fun _ _ _ h => h) (Or.inl ⟨by kernel_rfl, ?hyq30⟩) (by assumption) ?restq30
      case hyq30 => (intro w hSw; (try dsimp only at hSw); go_simp; try (with_reducible rfl))
      try simp only [List.getElem_toArray, List.getElem_cons_succ, List.getElem_cons_zero, Act.put, List.setIfInBounds_toArray, List.set_cons_zero, List.set_cons_succ]
      refine' wpAnyH_take (i := 1) (oi := _) (v := _) rfl (by kernel_rfl) (by kernel_rfl) (by kernel_rfl) (fun _ _ _ h => h) (Or.inl ⟨by kernel_rfl, ?hyq31⟩) (by assumption) ?restq31
      case hyq31 => (intro w hSw; (try dsimp only at hSw); go_simp; try (with_reducible rfl))
      try simp only [List.getElem_toArray, List.getElem_cons_succ, List.getElem_cons_zero, Act.put, List.setIfInBounds_toArray, List.set_cons_zero, List.set_cons_succ]
      refine' wpAnyH_take (i := 2) (oi := _) (v := _) rfl (by kernel_rfl) (by kernel_rfl) (by kernel_rfl) (fun _ _ _ h => h) (Or.inl ⟨by kernel_rfl, ?hyq32⟩) (by assumption) ?restq32
      case hyq32 => (intro w hSw; (try dsimp only at hSw); go_simp; try (with_reducible rfl))
      try simp only [List.getElem_toArray, List.getElem_cons_succ, List.getElem_cons_zero, Act.put, List.setIfInBounds_toArray, List.set_cons_zero, List.set_cons_succ]
      refine' wpAnyH_take (i := 3) (oi := _) (v := _) rfl (by kernel_rfl) (by kernel_rfl) (by kernel_rfl) (fun _ _ _ h => h) (Or.inl ⟨by kernel_rfl, ?hyq33⟩) (by assumption) ?restq33
      case hyq33 => (intro w hSw; (try dsimp only at hSw); go_simp; try (with_reducible rfl))
      try simp only [List.getElem_toArray, List.getElem_cons_succ, List.getElem_cons_zero, Act.put, List.setIfInBounds_toArray, List.set_cons_zero, List.set_cons_succ]
      refine wpAnyH_ready (rs := [4]) (by kernel_rfl) (by simp) ?_
      refine AllReadyH.cons (o := _) rfl (fun K hK => ?_) AllReadyH.nil
      go_simp
      refine (sign_any 0 _ (by unfold Amt; omega)).mono ?_; rintro e wm ⟨rfl, hbk⟩; have HK := hid (show Below W24.heap.size W24 wm from (by first | exact btr HK.out hbk | exact btr (Below.drew (Below.refl _ _)) hbk)); clear hbk
      (try go_wp2_with fail)
      refine hK.out _ _ ?_ (fun hHeld => ?_)
      · (try dsimp only); (first | exact ⟨⟨Bx1.out.1, Bx1.out.2.1⟩, ⟨Bo.out.1, Bo.out.2.1⟩, ⟨Bg.out.1, Bg.out.2.1⟩, ⟨Ba.out.1, Ba.out.2.1⟩, Below.drew (Below.refl _ _)⟩ | (have hk := HK.out; exact ⟨⟨(Bx1.out.to hk).1, (Bx1.out.to hk).2.1⟩, ⟨(Bo.out.to hk).1, (Bo.out.to hk).2.1⟩, ⟨(Bg.out.to hk).1, (Bg.out.to hk).2.1⟩, ⟨(Ba.out.to hk).1, (Ba.out.to hk).2.1⟩, hk⟩))
      clear hK K
      try simp only [List.getElem_toArray, List.getElem_cons_succ, List.getElem_cons_zero, Act.put, List.setIfInBounds_toArray, List.set_cons_zero, List.set_cons_succ]
      refine' wpAnyH_take (i := 5) (oi := _) (v := _) rfl (by kernel_rfl) (by kernel_rfl) (by kernel_rfl) (fun _ _ _ h => h) (Or.inl ⟨by kernel_rfl, ?hyq34⟩) (by assumption) ?restq34
      case hyq34 => (intro w hSw; (try dsimp only at hSw); go_simp; try (with_reducible rfl))
      try simp only [List.getElem_toArray, List.getElem_cons_succ, List.getElem_cons_zero, Act.put, List.setIfInBounds_toArray, List.set_cons_zero, List.set_cons_succ]
      refine' wpAnyH_take (i := 6) (oi := _) (v := _) rfl (by kernel_rfl) (by kernel_rfl) (by kernel_rfl) (fun _ _ _ h => h) (Or.inl ⟨by kernel_rfl, ?hyq35⟩) (by assumption) ?restq35
      case hyq35 => (intro w hSw; (try dsimp only at hSw); go_simp; try (with_reducible rfl))
      try simp only [List.getElem_toArray, List.getElem_cons_succ, List.getElem_cons_zero, Act.put, List.setIfInBounds_toArray, List.set_cons_zero, List.set_cons_succ]
      refine' wpAnyH_take (i := 7) (oi := _) (v := _) rfl (by kernel_rfl) (by kernel_rfl) (by kernel_rfl) (fun _ _ _ h => h) (Or.inl ⟨by kernel_rfl, ?hyq36⟩) (by assumption) ?restq36
      case hyq36 => (intro w hSw; (try dsimp only at hSw); go_simp; try (with_reducible rfl))
      try simp only [List.getElem_toArray, List.getElem_cons_succ, List.getElem_cons_zero, Act.put, List.setIfInBounds_toArray, List.set_cons_zero, List.set_cons_succ]
      refine' wpAnyH_take (i := 8) (oi := _) (v := _) rfl (by kernel_rfl) (by kernel_rfl) (by kernel_rfl) (fun _ _ _ h => h) (Or.inl ⟨by kernel_rfl, ?hyq37⟩) (by assumption) ?restq37
      case hyq37 => (intro w hSw; (try dsimp only at hSw); go_simp; try (with_reducible rfl))
      try simp only [List.getElem_toArray, List.getElem_cons_succ, List.getElem_cons_zero, Act.put, List.setIfInBounds_toArray, List.set_cons_zero, List.set_cons_succ]
      refine' wpAnyH_take (i := 9) (oi := _) (v := _) rfl (by kernel_rfl) (by kernel_rfl) (by kernel_rfl) (fun _ _ _ h => h) (Or.inl ⟨by kernel_rfl, ?hyq38⟩) (by assumption) ?restq38
      case hyq38 => (intro w hSw; (try dsimp only at hSw); go_simp; try (with_reducible rfl))
      try simp only [List.getElem_toArray, List.getElem_cons_succ, List.getElem_cons_zero, Act.put, List.setIfInBounds_toArray, List.set_cons_zero, List.set_cons_succ]
      refine' wpAnyH_take (i := 10) (oi := _) (v := _) rfl (by kernel_rfl) (by kernel_rfl) (by kernel_rfl) (fun _ _ _ h => h) (Or.inl ⟨by kernel_rfl, ?hyq39⟩) (by assumption) ?restq39
      case hyq39 => (intro w hSw; (try dsimp only at hSw); go_simp; try (with_reducible rfl))
      try simp only [List.getElem_toArray, List.getElem_cons_succ, List.getElem_cons_zero, Act.put, List.setIfInBounds_toArray, List.set_cons_zero, List.set_cons_succ]
      refine' wpAnyH_take (i := 11) (oi := _) (v := _) rfl (by kernel_rfl) (by kernel_rfl) (by kernel_rfl) (fun _ _ _ h => h) (Or.inl ⟨by kernel_rfl, ?hyq40⟩) (by assumption) ?restq40
      case hyq40 => (intro w hSw; (try dsimp only at hSw); go_simp; try (with_reducible rfl))
      try simp only [List.getElem_toArray, List.getElem_cons_succ, List.getElem_cons_zero, Act.put, List.setIfInBounds_toArray, List.set_cons_zero, List.set_cons_succ]
      refine' wpAnyH_take (i := 12) (oi := _) (v := _) rfl (by kernel_rfl) (by kernel_rfl) (by kernel_rfl) (fun _ _ _ h => h) (Or.inl ⟨by kernel_rfl, ?hyq41⟩) (by assumption) ?restq41
      case hyq41 => (intro w hSw; (try dsimp only at hSw); go_simp; try (with_reducible rfl))
      try simp only [List.getElem_toArray, List.getElem_cons_succ, List.getElem_cons_zero, Act.put, List.setIfInBounds_toArray, List.set_cons_zero, List.set_cons_succ]
      refine' wpAnyH_take (i := 14) (oi := _) (v := _) rfl (by kernel_rfl) (by kernel_rfl) (by kernel_rfl) (fun _ _ _ h => h) (Or.inl ⟨by kernel_rfl, ?hyq42⟩) (by assumption) ?restq42
      case hyq42 => (intro w hSw; (try dsimp only at hSw); go_simp; try (with_reducible rfl))
      try simp only [List.getElem_toArray, List.getElem_cons_succ, List.getElem_cons_zero, Act.put, List.setIfInBounds_toArray, List.set_cons_zero, List.set_cons_succ]
      refine wpAnyH_ready (rs := [13]) (by kernel_rfl) (by simp) ?_
      refine AllReadyH.cons (o := _) rfl (fun K hK => ?_) AllReadyH.nil
      go_simp
      refine (words_any _ _ _).mono ?_; rintro e wm ⟨rfl, hbk⟩; have HK := hid (show Below W24.heap.size W24 wm from (by first | exact btr HK.out hbk | exact btr (Below.drew (Below.refl _ _)) hbk)); clear hbk
      (try go_wp2_with fail)
      refine hK.out _ _ ?_ (fun hHeld => ?_)
      · (try dsimp only); (first | exact ⟨⟨Bx1.out.1, Bx1.out.2.1⟩, ⟨Bo.out.1, Bo.out.2.1⟩, ⟨Bg.out.1, Bg.out.2.1⟩, ⟨Ba.out.1, Ba.out.2.1⟩, Below.drew (Below.refl _ _)⟩ | (have hk := HK.out; exact ⟨⟨(Bx1.out.to hk).1, (Bx1.out.to hk).2.1⟩, ⟨(Bo.out.to hk).1, (Bo.out.to hk).2.1⟩, ⟨(Bg.out.to hk).1, (Bg.out.to hk).2.1⟩, ⟨(Ba.out.to hk).1, (Ba.out.to hk).2.1⟩, hk⟩))
      clear hK K
      try simp only [List.getElem_toArray, List.getElem_cons_succ, List.getElem_cons_zero, Act.put, List.setIfInBounds_toArray, List.set_cons_zero, List.set_cons_succ]
      refine wpAnyH_ready (rs := [15]) (by kernel_rfl) (by simp) ?_
      refine AllReadyH.cons (o := _) rfl (fun K hK => ?_) AllReadyH.nil
      go_simp
      refine (words_any _ _ _).mono ?_; rintro e wm ⟨rfl, hbk⟩; have HK := hid (show Below W24.heap.size W24 wm from (by first | exact btr HK.out hbk | exact btr (Below.drew (Below.refl _ _)) hbk)); clear hbk
      (try go_wp2_with fail)
      refine hK.out _ _ ?_ (fun hHeld => ?_)
      · (try dsimp only); (first | exact ⟨⟨Bx1.out.1, Bx1.out.2.1⟩, ⟨Bo.out.1, Bo.out.2.1⟩, ⟨Bg.out.1, Bg.out.2.1⟩, ⟨Ba.out.1, Ba.out.2.1⟩, Below.drew (Below.refl _ _)⟩ | (have hk := HK.out; exact ⟨⟨(Bx1.out.to hk).1, (Bx1.out.to hk).2.1⟩, ⟨(Bo.out.to hk).1, (Bo.out.to hk).2.1⟩, ⟨(Bg.out.to hk).1, (Bg.out.to hk).2.1⟩, ⟨(Ba.out.to hk).1, (Ba.out.to hk).2.1⟩, hk⟩))
      clear hK K
      try simp only [List.getElem_toArray, List.getElem_cons_succ, List.getElem_cons_zero, Act.put, List.setIfInBounds_toArray, List.set_cons_zero, List.set_cons_succ]
      refine' wpAnyH_take (i := 16) (oi := _) (v := _) rfl (by kernel_rfl) (by kernel_rfl) (by kernel_rfl) (fun _ _ _ h => h) (Or.inl ⟨by kernel_rfl, ?hyq43⟩) (by assumption) ?restq43
      case hyq43 => (intro w hSw; (try dsimp only at hSw); go_simp; try (with_reducible rfl))
      try simp only [List.getElem_toArray, List.getElem_cons_succ, List.getElem_cons_zero, Act.put, List.setIfInBounds_toArray, List.set_cons_zero, List.set_cons_succ]
      refine' wpAnyH_take (i := 17) (oi := _) (v := _) rfl (by kernel_rfl) (by kernel_rfl) (by kernel_rfl) (fun _ _ _ h => h) (Or.inl ⟨by kernel_rfl, ?hyq44⟩) (by assumption) ?restq44
      case hyq44 => (intro w hSw; (try dsimp only at hSw); go_simp; try (with_reducible rfl))
      try simp only [List.getElem_toArray, List.getElem_cons_succ, List.getElem_cons_zero, Act.put, List.setIfInBounds_toArray, List.set_cons_zero, List.set_cons_succ]
      refine' wpAnyH_take (i := 18) (oi := _) (v := _) rfl (by kernel_rfl) (by kernel_rfl) (by kernel_rfl) (fun _ _ _ h => h) (Or.inl ⟨by kernel_rfl, ?hyq45⟩) (by assumption) ?restq45
      case hyq45 => (intro w hSw; (try dsimp only at hSw); go_simp; try (with_reducible rfl))
      try simp only [List.getElem_toArray, List.getElem_cons_succ, List.getElem_cons_zero, Act.put, List.setIfInBounds_toArray, List.set_cons_zero, List.set_cons_succ]
      refine' wpAnyH_take (i := 19) (oi := _) (v := _) rfl (by kernel_rfl) (by kernel_rfl) (by kernel_rfl) (fun _ _ _ h => h) (Or.inl ⟨by kernel_rfl, ?hyq46⟩) (by assumption) ?restq46
      case hyq46 => (intro w hSw; (try dsimp only at hSw); go_simp; try (with_reducible rfl))
      try simp only [List.getElem_toArray, List.getElem_cons_succ, List.getElem_cons_zero, Act.put, List.setIfInBounds_toArray, List.set_cons_zero, List.set_cons_succ]
      refine' wpAnyH_take (i := 21) (oi := _) (v := _) rfl (by kernel_rfl) (by kernel_rfl) (by kernel_rfl) (fun _ _ _ h => h) (Or.inl ⟨by kernel_rfl, ?hyq47⟩) (by assumption) ?restq47
      case hyq47 => (intro w hSw; (try dsimp only at hSw); go_simp; try (with_reducible rfl))
      try simp only [List.getElem_toArray, List.getElem_cons_succ, List.getElem_cons_zero, Act.put, List.setIfInBounds_toArray, List.set_cons_zero, List.set_cons_succ]
      refine' wpAnyH_take (i := 23) (oi := _) (v := _) rfl (by kernel_rfl) (by kernel_rfl) (by kernel_rfl) (fun _ _ _ h => h) (Or.inl ⟨by kernel_rfl, ?hyq48⟩) (by assumption) ?restq48
      case hyq48 => (intro w hSw; (try dsimp only at hSw); go_simp; try (with_reducible rfl))
      try simp only [List.getElem_toArray, List.getElem_cons_succ, List.getElem_cons_zero, Act.put, List.setIfInBounds_toArray, List.set_cons_zero, List.set_cons_succ]
      refine' wpAnyH_take (i := 24) (oi := _) (v := _) rfl (by kernel_rfl) (by kernel_rfl) (by kernel_rfl) (fun _ _ _ h => h) (Or.inl ⟨by kernel_rfl, ?hyq49⟩) (by assumption) ?restq49
      case hyq49 => (intro w hSw; (try dsimp only at hSw); go_simp; try (with_reducible rfl))
      try simp only [List.getElem_toArray, List.getElem_cons_succ, List.getElem_cons_zero, Act.put, List.setIfInBounds_toArray, List.set_cons_zero, List.set_cons_succ]
      refine wpAnyH_ready (rs := [20]) (by kernel_rfl) (by simp) ?_
      refine AllReadyH.cons (o := _) rfl (fun K hK => ?_) AllReadyH.nil
      go_simp
      refine (words_any _ _ _).mono ?_; rintro e wm ⟨rfl, hbk⟩; have HK := hid (show Below W24.heap.size W24 wm from (by first | exact btr HK.out hbk | exact btr (Below.drew (Below.refl _ _)) hbk)); clear hbk
      (try go_wp2_with fail)
      refine hK.out _ _ ?_ (fun hHeld => ?_)
      · (try dsimp only); (first | exact ⟨⟨Bx1.out.1, Bx1.out.2.1⟩, ⟨Bo.out.1, Bo.out.2.1⟩, ⟨Bg.out.1, Bg.out.2.1⟩, ⟨Ba.out.1, Ba.out.2.1⟩, Below.drew (Below.refl _ _)⟩ | (have hk := HK.out; exact ⟨⟨(Bx1.out.to hk).1, (Bx1.out.to hk).2.1⟩, ⟨(Bo.out.to hk).1, (Bo.out.to hk).2.1⟩, ⟨(Bg.out.to hk).1, (Bg.out.to hk).2.1⟩, ⟨(Ba.out.to hk).1, (Ba.out.to hk).2.1⟩, hk⟩))
      clear hK K
      try simp only [List.getElem_toArray, List.getElem_cons_succ, List.getElem_cons_zero, Act.put, List.setIfInBounds_toArray, List.set_cons_zero, List.set_cons_succ]
      refine' wpAnyH_take (i := 22) (oi := _) (v := _) rfl (by kernel_rfl) (by kernel_rfl) (by kernel_rfl) (fun _ _ _ h => h) (Or.inl ⟨by kernel_rfl, ?hyq50⟩) (by assumption) ?restq50
      case hyq50 => (intro w hSw; (try dsimp only at hSw); go_simp; try (with_reducible rfl))
      try simp only [List.getElem_toArray, List.getElem_cons_succ, List.getElem_cons_zero, Act.put, List.setIfInBounds_toArray, List.set_cons_zero, List.set_cons_succ]
      refine' wpAnyH_take (i := 25) (oi := _) (v := _) rfl (by kernel_rfl) (by kernel_rfl) (by kernel_rfl) (fun _ _ _ h => h) (Or.inl ⟨by kernel_rfl, ?hyq51⟩) (by assumption) ?restq51
      case hyq51 => (intro w hSw; (try dsimp only at hSw); go_simp; try (with_reducible rfl))
      try simp only [List.getElem_toArray, List.getElem_cons_succ, List.getElem_cons_zero, Act.put, List.setIfInBounds_toArray, List.set_cons_zero, List.set_cons_succ]
      refine' wpAnyH_take (i := 26) (oi := _) (v := undef) rfl (by kernel_rfl) (by kernel_rfl) (by kernel_rfl) (fun _ _ _ h => h) (Or.inr ⟨by kernel_rfl, rfl⟩) (by assumption) ?restq52
      try simp only [List.getElem_toArray, List.getElem_cons_succ, List.getElem_cons_zero, Act.put, List.setIfInBounds_toArray, List.set_cons_zero, List.set_cons_succ]
      refine' wpAnyH_take (i := 27) (oi := _) (v := undef) rfl (by kernel_rfl) (by kernel_rfl) (by kernel_rfl) (fun _ _ _ h => h) (Or.inr ⟨by kernel_rfl, rfl⟩) (by assumption) ?restq53
      try simp only [List.getElem_toArray, List.getElem_cons_succ, List.getElem_cons_zero, Act.put, List.setIfInBounds_toArray, List.set_cons_zero, List.set_cons_succ]
      refine' wpAnyH_take (i := 28) (oi := _) (v := undef) rfl (by kernel_rfl) (by kernel_rfl) (by kernel_rfl) (fun _ _ _ h => h) (Or.inr ⟨by kernel_rfl, rfl⟩) (by assumption) ?restq54
      try simp only [List.getElem_toArray, List.getElem_cons_succ, List.getElem_cons_zero, Act.put, List.setIfInBounds_toArray, List.set_cons_zero, List.set_cons_succ]
      refine' wpAnyH_take (i := 29) (oi := _) (v := _) rfl (by kernel_rfl) (by kernel_rfl) (by kernel_rfl) (fun _ _ _ h => h) (Or.inl ⟨by kernel_rfl, ?hyq55⟩) (by assumption) ?restq55
      case hyq55 => (intro w hSw; (try dsimp only at hSw); go_simp; try (with_reducible rfl))
      try simp only [List.getElem_toArray, List.getElem_cons_succ, List.getElem_cons_zero, Act.put, List.setIfInBounds_toArray, List.set_cons_zero, List.set_cons_succ]
      refine' wpAnyH_take (i := 30) (oi := _) (v := _) rfl (by kernel_rfl) (by kernel_rfl) (by kernel_rfl) (fun _ _ _ h => h) (Or.inl ⟨by kernel_rfl, ?hyq56⟩) (by assumption) ?restq56
      case hyq56 => (intro w hSw; (try dsimp only at hSw); go_simp; try (with_reducible rfl))
      try simp only [List.getElem_toArray, List.getElem_cons_succ, List.getElem_cons_zero, Act.put, List.setIfInBounds_toArray, List.set_cons_zero, List.set_cons_succ]
      refine' wpAnyH_take (i := 31) (oi := _) (v := _) rfl (by kernel_rfl) (by kernel_rfl) (by kernel_rfl) (fun _ _ _ h => h) (Or.inl ⟨by kernel_rfl, ?hyq57⟩) (by assumption) ?restq57
      case hyq57 => (intro w hSw; (try dsimp only at hSw); go_simp; try (with_reducible rfl))
      try simp only [List.getElem_toArray, List.getElem_cons_succ, List.getElem_cons_zero, Act.put, List.setIfInBounds_toArray, List.set_cons_zero, List.set_cons_succ]
      refine' wpAnyH_take (i := 32) (oi := _) (v := _) rfl (by kernel_rfl) (by kernel_rfl) (by kernel_rfl) (fun _ _ _ h => h) (Or.inl ⟨by kernel_rfl, ?hyq58⟩) (by assumption) ?restq58
      case hyq58 => (intro w hSw; (try dsimp only at hSw); go_simp; try (with_reducible rfl))
      try simp only [List.getElem_toArray, List.getElem_cons_succ, List.getElem_cons_zero, Act.put, List.setIfInBounds_toArray, List.set_cons_zero, List.set_cons_succ]
      refine wpAnyH_done (by kernel_rfl) ?_ _
      all_goals
        go_wp2
        exact bodyPost_ret (v := .bool true) (by simp [results, Try.results4, go_sem]) rfl ⟨rfl, btr L23.out HK.out⟩
    ·
      subst h4; subst h1 h2 h3
      first | skip; go_region_held3 (fun w' => (w'.cell? ⟨w1.heap.size, 0, none⟩ = some (.int .u64 (hiW 0)) ∧ w'.cell? ⟨w1.heap.size, 1, none⟩ = some (.int .u64 (loW 0))) ∧ (w'.cell? ⟨wn.heap.size, 0, none⟩ = some (.int .u64 (hiW 0)) ∧ w'.cell? ⟨wn.heap.size, 1, none⟩ = some (.int .u64 (loW 0))) ∧ (w'.cell? ⟨w23.heap.size, 0, none⟩ = some (.int .u64 (hiW 0)) ∧ w'.cell? ⟨w23.heap.size, 1, none⟩ = some (.int .u64 (loW 0))) ∧ (w'.cell? ⟨w.heap.size, 0, none⟩ = some (.int .u64 9223372036854775808) ∧ w'.cell? ⟨w.heap.size, 1, none⟩ = some (.int .u64 0)) ∧ Below W24.heap.size W24 w') (first | exact ⟨⟨Bx1.out.1, Bx1.out.2.1⟩, ⟨Bo.out.1, Bo.out.2.1⟩, ⟨Bg.out.1, Bg.out.2.1⟩, ⟨Ba.out.1, Ba.out.2.1⟩, Below.drew (Below.refl _ _)⟩ | (have hk := HK.out; exact ⟨⟨(Bx1.out.to hk).1, (Bx1.out.to hk).2.1⟩, ⟨(Bo.out.to hk).1, (Bo.out.to hk).2.1⟩, ⟨(Bg.out.to hk).1, (Bg.out.to hk).2.1⟩, ⟨(Ba.out.to hk).1, (Ba.out.to hk).2.1⟩, hk⟩))
        (first
        | (go_at_call 10; refine (words_any _ _ _).mono ?_; rintro e wm ⟨rfl, hbk⟩; have HK := hid (show Below W24.heap.size W24 wm from (by first | exact btr HK.out hbk | exact btr (Below.drew (Below.refl _ _)) hbk)); clear hbk)
        | (go_at_call 13; refine (sign_any 0 _ (by unfold Amt; omega)).mono ?_; rintro e wm ⟨rfl, hbk⟩; have HK := hid (show Below W24.heap.size W24 wm from (by first | exact btr HK.out hbk | exact btr (Below.drew (Below.refl _ _)) hbk)); clear hbk))
            | fail "held"
      all_goals
        go_wp2
        exact bodyPost_ret (v := .bool true) (by simp [results, Try.results4, go_sem]) rfl ⟨rfl, btr L23.out HK.out⟩
  ·
    go_wp2_with fail
    refine (text_walk x _ hx.out).mono ?_
    rintro e w22 ⟨⟨xs, hxs, rfl⟩, hb⟩
    have M22 := hid (show Below wk.heap.size wk w22 from (by refine btr ?_ hb; repeat (first | exact HK.out | exact Below.refl _ _ | refine bal ?_ _ | refine Below.setCell ?_ (by dsimp only; omega) _ | refine Below.drew ?_)))
    first | have Bo := hid ((two_bx T.out 0).to hb) | have Bo := hid ((bx_new wl (hiW 0) (loW 0) 33).to hb)
    have L22 := hid (btr L20.out M22.out)
    have Ba := hid (Ba.out.to M22.out)
    have Bx1 := hid (Bx1.out.to M22.out)
    clear hb HK M22 L20 x0 x1 x2
    try clear T t0 t1 t2 t3
    go_wp2_with fail
    refine (FP.out xs _ hxs).mono ?_
    rintro e w23 ⟨rfl, hb⟩
    have L23 := hid (bal (btr L22.out hb) (.cells #[.int .u64 (hiW x), .int .u64 (loW x)] 33))
    have Ba := hid ((Ba.out.to hb).alloc (.cells #[.int .u64 (hiW x), .int .u64 (loW x)] 33))
    have Bx1 := hid ((Bx1.out.to hb).alloc (.cells #[.int .u64 (hiW x), .int .u64 (loW x)] 33))
    have Bo := hid ((Bo.out.to hb).alloc (.cells #[.int .u64 (hiW x), .int .u64 (loW x)] 33))
    have Bg := hid (bx_new w23 (hiW x) (loW x) 33)
    clear hb L22
    unfold mv
    go_wp2
    obtain ⟨W24, hW24⟩ : ∃ W, w23.alloc (.cells #[.int .u64 (hiW x), .int .u64 (loW x)] 33) = W := ⟨_, rfl⟩
    rw [hW24] at Ba Bx1 Bo Bg L23 ⊢
    clear hW24
    have z1 : sgn 0 = 0 := rfl
    have z2 : hiW 0 = 0 := rfl
    have z3 : loW 0 = 0 := rfl
    clear fa fb fc hE
    rcases hA with ⟨h1, h2, h3⟩ | ⟨h1, h2, h3, h4⟩
    ·
      subst h1 h2 h3
      refine wp_region_held_drew (S := (fun w' => (w'.cell? ⟨w1.heap.size, 0, none⟩ = some (.int .u64 (hiW x)) ∧ w'.cell? ⟨w1.heap.size, 1, none⟩ = some (.int .u64 (loW x))) ∧ (w'.cell? ⟨wk.heap.size, 0, none⟩ = some (.int .u64 (hiW 0)) ∧ w'.cell? ⟨wk.heap.size, 1, none⟩ = some (.int .u64 (loW 0))) ∧ (w'.cell? ⟨w23.heap.size, 0, none⟩ = some (.int .u64 (hiW x)) ∧ w'.cell? ⟨w23.heap.size, 1, none⟩ = some (.int .u64 (loW x))) ∧ (w'.cell? ⟨w.heap.size, 0, none⟩ = some (.int .u64 (hiW x)) ∧ w'.cell? ⟨w.heap.size, 1, none⟩ = some (.int .u64 (loW x))) ∧ Below W24.heap.size W24 w')) (by kernel_rfl) ?_ (fun hHeld => ?_)
      · (try dsimp only); (first | exact ⟨⟨Bx1.out.1, Bx1.out.2.1⟩, ⟨Bo.out.1, Bo.out.2.1⟩, ⟨Bg.out.1, Bg.out.2.1⟩, ⟨Ba.out.1, Ba.out.2.1⟩, Below.drew (Below.refl _ _)⟩ | (have hk := HK.out; exact ⟨⟨(Bx1.out.to hk).1, (Bx1.out.to hk).2.1⟩, ⟨(Bo.out.to hk).1, (Bo.out.to hk).2.1⟩, ⟨(Bg.out.to hk).1, (Bg.out.to hk).2.1⟩, ⟨(Ba.out.to hk).1, (Ba.out.to hk).2.1⟩, hk⟩))
      refine' wpAnyH_take (i := 0) (oi := _) (v := _) rfl (by kernel_rfl) (by kernel_rfl) (by kernel_rfl) (fun _ _ _ h => h) (Or.inl ⟨by kernel_rfl, ?hyq59⟩) (by assumption) ?restq59
      case hyq59 => (intro w hSw; (try dsimp only at hSw); go_simp; try (with_reducible rfl))
      try simp only [List.getElem_toArray, List.getElem_cons_succ, List.getElem_cons_zero, Act.put, List.setIfInBounds_toArray, List.set_cons_zero, List.set_cons_succ]
      refine' wpAnyH_take (i := 1) (oi := _) (v := _) rfl (by kernel_rfl) (by kernel_rfl) (by kernel_rfl) (fun _ _ _ h => h) (Or.inl ⟨by kernel_rfl, ?hyq60⟩) (by assumption) ?restq60
      case hyq60 => (intro w hSw; (try dsimp only at hSw); go_simp; try (with_reducible rfl))
      try simp only [List.getElem_toArray, List.getElem_cons_succ, List.getElem_cons_zero, Act.put, List.setIfInBounds_toArray, List.set_cons_zero, List.set_cons_succ]
      refine' wpAnyH_take (i := 2) (oi := _) (v := _) rfl (by kernel_rfl) (by kernel_rfl) (by kernel_rfl) (fun _ _ _ h => h) (Or.inl ⟨by kernel_rfl, ?hyq61⟩) (by assumption) ?restq61
      case hyq61 => (intro w hSw; (try dsimp only at hSw); go_simp; try (with_reducible rfl))
      try simp only [List.getElem_toArray, List.getElem_cons_succ, List.getElem_cons_zero, Act.put, List.setIfInBounds_toArray, List.set_cons_zero, List.set_cons_succ]
      refine' wpAnyH_take (i := 3) (oi := _) (v := _) rfl (by kernel_rfl) (by kernel_rfl) (by kernel_rfl) (fun _ _ _ h => h) (Or.inl ⟨by kernel_rfl, ?hyq62⟩) (by assumption) ?restq62
      case hyq62 => (intro w hSw; (try dsimp only at hSw); go_simp; try (with_reducible rfl))
      try simp only [List.getElem_toArray, List.getElem_cons_succ, List.getElem_cons_zero, Act.put, List.setIfInBounds_toArray, List.set_cons_zero, List.set_cons_succ]
      refine wpAnyH_ready (rs := [4]) (by kernel_rfl) (by simp) ?_
      refine AllReadyH.cons (o := _) rfl (fun K hK => ?_) AllReadyH.nil
      go_simp
      refine (sign_any 0 _ (by unfold Amt; omega)).mono ?_; rintro e wm ⟨rfl, hbk⟩; have HK := hid (show Below W24.heap.size W24 wm from (by first | exact btr HK.out hbk | exact btr (Below.drew (Below.refl _ _)) hbk)); clear hbk
      (try go_wp2_with fail)
      refine hK.out _ _ ?_ (fun hHeld => ?_)
      · (try dsimp only); (first | exact ⟨⟨Bx1.out.1, Bx1.out.2.1⟩, ⟨Bo.out.1, Bo.out.2.1⟩, ⟨Bg.out.1, Bg.out.2.1⟩, ⟨Ba.out.1, Ba.out.2.1⟩, Below.drew (Below.refl _ _)⟩ | (have hk := HK.out; exact ⟨⟨(Bx1.out.to hk).1, (Bx1.out.to hk).2.1⟩, ⟨(Bo.out.to hk).1, (Bo.out.to hk).2.1⟩, ⟨(Bg.out.to hk).1, (Bg.out.to hk).2.1⟩, ⟨(Ba.out.to hk).1, (Ba.out.to hk).2.1⟩, hk⟩))
      clear hK K
      try simp only [List.getElem_toArray, List.getElem_cons_succ, List.getElem_cons_zero, Act.put, List.setIfInBounds_toArray, List.set_cons_zero, List.set_cons_succ]
      refine' wpAnyH_take (i := 5) (oi := _) (v := _) rfl (by kernel_rfl) (by kernel_rfl) (by kernel_rfl) (fun _ _ _ h => h) (Or.inl ⟨by kernel_rfl, ?hyq63⟩) (by assumption) ?restq63
      case hyq63 => (intro w hSw; (try dsimp only at hSw); go_simp; try (with_reducible rfl))
      try simp only [List.getElem_toArray, List.getElem_cons_succ, List.getElem_cons_zero, Act.put, List.setIfInBounds_toArray, List.set_cons_zero, List.set_cons_succ]
      refine' wpAnyH_take (i := 6) (oi := _) (v := _) rfl (by kernel_rfl) (by kernel_rfl) (by kernel_rfl) (fun _ _ _ h => h) (Or.inl ⟨by kernel_rfl, ?hyq64⟩) (by assumption) ?restq64
      case hyq64 => (intro w hSw; (try dsimp only at hSw); go_simp; try (with_reducible rfl))
      try simp only [List.getElem_toArray, List.getElem_cons_succ, List.getElem_cons_zero, Act.put, List.setIfInBounds_toArray, List.set_cons_zero, List.set_cons_succ]
      refine' wpAnyH_take (i := 7) (oi := _) (v := _) rfl (by kernel_rfl) (by kernel_rfl) (by kernel_rfl) (fun _ _ _ h => h) (Or.inl ⟨by kernel_rfl, ?hyq65⟩) (by assumption) ?restq65
      case hyq65 => (intro w hSw; (try dsimp only at hSw); go_simp; try (with_reducible rfl))
      try simp only [List.getElem_toArray, List.getElem_cons_succ, List.getElem_cons_zero, Act.put, List.setIfInBounds_toArray, List.set_cons_zero, List.set_cons_succ]
      refine' wpAnyH_take (i := 8) (oi := _) (v := _) rfl (by kernel_rfl) (by kernel_rfl) (by kernel_rfl) (fun _ _ _ h => h) (Or.inl ⟨by kernel_rfl, ?hyq66⟩) (by assumption) ?restq66
      case hyq66 => (intro w hSw; (try dsimp only at hSw); go_simp; try (with_reducible rfl))
      try simp only [List.getElem_toArray, List.getElem_cons_succ, List.getElem_cons_zero, Act.put, List.setIfInBounds_toArray, List.set_cons_zero, List.set_cons_succ]
      refine' wpAnyH_take (i := 9) (oi := _) (v := _) rfl (by kernel_rfl) (by kernel_rfl) (by kernel_rfl) (fun _ _ _ h => h) (Or.inl ⟨by kernel_rfl, ?hyq67⟩) (by assumption) ?restq67
      case hyq67 => (intro w hSw; (try dsimp only at hSw); go_simp; try (with_reducible rfl))
      try simp only [List.getElem_toArray, List.getElem_cons_succ, List.getElem_cons_zero, Act.put, List.setIfInBounds_toArray, List.set_cons_zero, List.set_cons_succ]
      refine' wpAnyH_take (i := 10) (oi := _) (v := _) rfl (by kernel_rfl) (by kernel_rfl) (by kernel_rfl) (fun _ _ _ h => h) (Or.inl ⟨by kernel_rfl, ?hyq68⟩) (by assumption) ?restq68
      case hyq68 => (intro w hSw; (try dsimp only at hSw); go_simp; try (with_reducible rfl))
      try simp only [List.getElem_toArray, List.getElem_cons_succ, List.getElem_cons_zero, Act.put, List.setIfInBounds_toArray, List.set_cons_zero, List.set_cons_succ]
      refine' wpAnyH_take (i := 11) (oi := _) (v := _) rfl (by kernel_rfl) (by kernel_rfl) (by kernel_rfl) (fun _ _ _ h => h) (Or.inl ⟨by kernel_rfl, ?hyq69⟩) (by assumption) ?restq69
      case hyq69 => (intro w hSw; (try dsimp only at hSw); go_simp; try (with_reducible rfl))
      try simp only [List.getElem_toArray, List.getElem_cons_succ, List.getElem_cons_zero, Act.put, List.setIfInBounds_toArray, List.set_cons_zero, List.set_cons_succ]
      refine' wpAnyH_take (i := 12) (oi := _) (v := _) rfl (by kernel_rfl) (by kernel_rfl) (by kernel_rfl) (fun _ _ _ h => h) (Or.inl ⟨by kernel_rfl, ?hyq70⟩) (by assumption) ?restq70
      case hyq70 => (intro w hSw; (try dsimp only at hSw); go_simp; try (with_reducible rfl))
      try simp only [List.getElem_toArray, List.getElem_cons_succ, List.getElem_cons_zero, Act.put, List.setIfInBounds_toArray, List.set_cons_zero, List.set_cons_succ]
      refine' wpAnyH_take (i := 14) (oi := _) (v := _) rfl (by kernel_rfl) (by kernel_rfl) (by kernel_rfl) (fun _ _ _ h => h) (Or.inl ⟨by kernel_rfl, ?hyq71⟩) (by assumption) ?restq71
      case hyq71 => (intro w hSw; (try dsimp only at hSw); go_simp; try (with_reducible rfl))
      try simp only [List.getElem_toArray, List.getElem_cons_succ, List.getElem_cons_zero, Act.put, List.setIfInBounds_toArray, List.set_cons_zero, List.set_cons_succ]
      refine wpAnyH_ready (rs := [13]) (by kernel_rfl) (by simp) ?_
      refine AllReadyH.cons (o := _) rfl (fun K hK => ?_) AllReadyH.nil
      go_simp
      refine (words_any _ _ _).mono ?_; rintro e wm ⟨rfl, hbk⟩; have HK := hid (show Below W24.heap.size W24 wm from (by first | exact btr HK.out hbk | exact btr (Below.drew (Below.refl _ _)) hbk)); clear hbk
      (try go_wp2_with fail)
      refine hK.out _ _ ?_ (fun hHeld => ?_)
      · (try dsimp only); (first | exact ⟨⟨Bx1.out.1, Bx1.out.2.1⟩, ⟨Bo.out.1, Bo.out.2.1⟩, ⟨Bg.out.1, Bg.out.2.1⟩, ⟨Ba.out.1, Ba.out.2.1⟩, Below.drew (Below.refl _ _)⟩ | (have hk := HK.out; exact ⟨⟨(Bx1.out.to hk).1, (Bx1.out.to hk).2.1⟩, ⟨(Bo.out.to hk).1, (Bo.out.to hk).2.1⟩, ⟨(Bg.out.to hk).1, (Bg.out.to hk).2.1⟩, ⟨(Ba.out.to hk).1, (Ba.out.to hk).2.1⟩, hk⟩))
      clear hK K
      try simp only [List.getElem_toArray, List.getElem_cons_succ, List.getElem_cons_zero, Act.put, List.setIfInBounds_toArray, List.set_cons_zero, List.set_cons_succ]
      refine wpAnyH_ready (rs := [15]) (by kernel_rfl) (by simp) ?_
      refine AllReadyH.cons (o := _) rfl (fun K hK => ?_) AllReadyH.nil
      go_simp
      refine (words_any _ _ _).mono ?_; rintro e wm ⟨rfl, hbk⟩; have HK := hid (show Below W24.heap.size W24 wm from (by first | exact btr HK.out hbk | exact btr (Below.drew (Below.refl _ _)) hbk)); clear hbk
      (try go_wp2_with fail)
      refine hK.out _ _ ?_ (fun hHeld => ?_)
      · (try dsimp only); (first | exact ⟨⟨Bx1.out.1, Bx1.out.2.1⟩, ⟨Bo.out.1, Bo.out.2.1⟩, ⟨Bg.out.1, Bg.out.2.1⟩, ⟨Ba.out.1, Ba.out.2.1⟩, Below.drew (Below.refl _ _)⟩ | (have hk := HK.out; exact ⟨⟨(Bx1.out.to hk).1, (Bx1.out.to hk).2.1⟩, ⟨(Bo.out.to hk).1, (Bo.out.to hk).2.1⟩, ⟨(Bg.out.to hk).1, (Bg.out.to hk).2.1⟩, ⟨(Ba.out.to hk).1, (Ba.out.to hk).2.1⟩, hk⟩))
      clear hK K
      try simp only [List.getElem_toArray, List.getElem_cons_succ, List.getElem_cons_zero, Act.put, List.setIfInBounds_toArray, List.set_cons_zero, List.set_cons_succ]
      refine' wpAnyH_take (i := 16) (oi := _) (v := _) rfl (by kernel_rfl) (by kernel_rfl) (by kernel_rfl) (fun _ _ _ h => h) (Or.inl ⟨by kernel_rfl, ?hyq72⟩) (by assumption) ?restq72
      case hyq72 => (intro w hSw; (try dsimp only at hSw); go_simp; try (with_reducible rfl))
      try simp only [List.getElem_toArray, List.getElem_cons_succ, List.getElem_cons_zero, Act.put, List.setIfInBounds_toArray, List.set_cons_zero, List.set_cons_succ]
      refine' wpAnyH_take (i := 17) (oi := _) (v := _) rfl (by kernel_rfl) (by kernel_rfl) (by kernel_rfl) (fun _ _ _ h => h) (Or.inl ⟨by kernel_rfl, ?hyq73⟩) (by assumption) ?restq73
      case hyq73 => (intro w hSw; (try dsimp only at hSw); go_simp; try (with_reducible rfl))
      try simp only [List.getElem_toArray, List.getElem_cons_succ, List.getElem_cons_zero, Act.put, List.setIfInBounds_toArray, List.set_cons_zero, List.set_cons_succ]
      refine' wpAnyH_take (i := 18) (oi := _) (v := _) rfl (by kernel_rfl) (by kernel_rfl) (by kernel_rfl) (fun _ _ _ h => h) (Or.inl ⟨by kernel_rfl, ?hyq74⟩) (by assumption) ?restq74
      case hyq74 => (intro w hSw; (try dsimp only at hSw); go_simp; try (with_reducible rfl))
      try simp only [List.getElem_toArray, List.getElem_cons_succ, List.getElem_cons_zero, Act.put, List.setIfInBounds_toArray, List.set_cons_zero, List.set_cons_succ]
      refine' wpAnyH_take (i := 19) (oi := _) (v := _) rfl (by kernel_rfl) (by kernel_rfl) (by kernel_rfl) (fun _ _ _ h => h) (Or.inl ⟨by kernel_rfl, ?hyq75⟩) (by assumption) ?restq75
      case hyq75 => (intro w hSw; (try dsimp only at hSw); go_simp; try (with_reducible rfl))
      try simp only [List.getElem_toArray, List.getElem_cons_succ, List.getElem_cons_zero, Act.put, List.setIfInBounds_toArray, List.set_cons_zero, List.set_cons_succ]
      refine' wpAnyH_take (i := 21) (oi := _) (v := _) rfl (by kernel_rfl) (by kernel_rfl) (by kernel_rfl) (fun _ _ _ h => h) (Or.inl ⟨by kernel_rfl, ?hyq76⟩) (by assumption) ?restq76
      case hyq76 => (intro w hSw; (try dsimp only at hSw); go_simp; try (with_reducible rfl))
      try simp only [List.getElem_toArray, List.getElem_cons_succ, List.getElem_cons_zero, Act.put, List.setIfInBounds_toArray, List.set_cons_zero, List.set_cons_succ]
      refine' wpAnyH_take (i := 23) (oi := _) (v := _) rfl (by kernel_rfl) (by kernel_rfl) (by kernel_rfl) (fun _ _ _ h => h) (Or.inl ⟨by kernel_rfl, ?hyq77⟩) (by assumption) ?restq77
      case hyq77 => (intro w hSw; (try dsimp only at hSw); go_simp; try (with_reducible rfl))
      try simp only [List.getElem_toArray, List.getElem_cons_succ, List.getElem_cons_zero, Act.put, List.setIfInBounds_toArray, List.set_cons_zero, List.set_cons_succ]
      refine' wpAnyH_take (i := 24) (oi := _) (v := _) rfl (by kernel_rfl) (by kernel_rfl) (by kernel_rfl) (fun _ _ _ h => h) (Or.inl ⟨by kernel_rfl, ?hyq78⟩) (by assumption) ?restq78
      case hyq78 => (intro w hSw; (try dsimp only at hSw); go_simp; try (with_reducible rfl))
      try simp only [List.getElem_toArray, List.getElem_cons_succ, List.getElem_cons_zero, Act.put, List.setIfInBounds_toArray, List.set_cons_zero, List.set_cons_succ]
      refine wpAnyH_ready (rs := [20]) (by kernel_rfl) (by simp) ?_
      refine AllReadyH.cons (o := _) rfl (fun K hK => ?_) AllReadyH.nil
      go_simp
      refine (words_any _ _ _).mono ?_; rintro e wm ⟨rfl, hbk⟩; have HK := hid (show Below W24.heap.size W24 wm from (by first | exact btr HK.out hbk | exact btr (Below.drew (Below.refl _ _)) hbk)); clear hbk
      (try go_wp2_with fail)
      refine hK.out _ _ ?_ (fun hHeld => ?_)
      · (try dsimp only); (first | exact ⟨⟨Bx1.out.1, Bx1.out.2.1⟩, ⟨Bo.out.1, Bo.out.2.1⟩, ⟨Bg.out.1, Bg.out.2.1⟩, ⟨Ba.out.1, Ba.out.2.1⟩, Below.drew (Below.refl _ _)⟩ | (have hk := HK.out; exact ⟨⟨(Bx1.out.to hk).1, (Bx1.out.to hk).2.1⟩, ⟨(Bo.out.to hk).1, (Bo.out.to hk).2.1⟩, ⟨(Bg.out.to hk).1, (Bg.out.to hk).2.1⟩, ⟨(Ba.out.to hk).1, (Ba.out.to hk).2.1⟩, hk⟩))
      clear hK K
      try simp only [List.getElem_toArray, List.getElem_cons_succ, List.getElem_cons_zero, Act.put, List.setIfInBounds_toArray, List.set_cons_zero, List.set_cons_succ]
      refine' wpAnyH_take (i := 22) (oi := _) (v := _) rfl (by kernel_rfl) (by kernel_rfl) (by kernel_rfl) (fun _ _ _ h => h) (Or.inl ⟨by kernel_rfl, ?hyq79⟩) (by assumption) ?restq79
      case hyq79 => (intro w hSw; (try dsimp only at hSw); go_simp; try (with_reducible rfl))
      try simp only [List.getElem_toArray, List.getElem_cons_succ, List.getElem_cons_zero, Act.put, List.setIfInBounds_toArray, List.set_cons_zero, List.set_cons_succ]
      refine' wpAnyH_take (i := 25) (oi := _) (v := _) rfl (by kernel_rfl) (by kernel_rfl) (by kernel_rfl) (fun _ _ _ h => h) (Or.inl ⟨by kernel_rfl, ?hyq80⟩) (by assumption) ?restq80
      case hyq80 => (intro w hSw; (try dsimp only at hSw); go_simp; try (with_reducible rfl))
      try simp only [List.getElem_toArray, List.getElem_cons_succ, List.getElem_cons_zero, Act.put, List.setIfInBounds_toArray, List.set_cons_zero, List.set_cons_succ]
      refine' wpAnyH_take (i := 26) (oi := _) (v := undef) rfl (by kernel_rfl) (by kernel_rfl) (by kernel_rfl) (fun _ _ _ h => h) (Or.inr ⟨by kernel_rfl, rfl⟩) (by assumption) ?restq81
      try simp only [List.getElem_toArray, List.getElem_cons_succ, List.getElem_cons_zero, Act.put, List.setIfInBounds_toArray, List.set_cons_zero, List.set_cons_succ]
      refine' wpAnyH_take (i := 27) (oi := _) (v := undef) rfl (by kernel_rfl) (by kernel_rfl) (by kernel_rfl) (fun _ _ _ h => h) (Or.inr ⟨by kernel_rfl, rfl⟩) (by assumption) ?restq82
      try simp only [List.getElem_toArray, List.getElem_cons_succ, List.getElem_cons_zero, Act.put, List.setIfInBounds_toArray, List.set_cons_zero, List.set_cons_succ]
      refine' wpAnyH_take (i := 28) (oi := _) (v := undef) rfl (by kernel_rfl) (by kernel_rfl) (by kernel_rfl) (fun _ _ _ h => h) (Or.inr ⟨by kernel_rfl, rfl⟩) (by assumption) ?restq83
      try simp only [List.getElem_toArray, List.getElem_cons_succ, List.getElem_cons_zero, Act.put, List.setIfInBounds_toArray, List.set_cons_zero, List.set_cons_succ]
      refine' wpAnyH_take (i := 29) (oi := _) (v := _) rfl (by kernel_rfl) (by kernel_rfl) (by kernel_rfl) (fun _ _ _ h => h) (Or.inl ⟨by kernel_rfl, ?hyq84⟩) (by assumption) ?restq84
      case hyq84 => (intro w hSw; (try dsimp only at hSw); go_simp; try (with_reducible rfl))
      try simp only [List.getElem_toArray, List.getElem_cons_succ, List.getElem_cons_zero, Act.put, List.setIfInBounds_toArray, List.set_cons_zero, List.set_cons_succ]
      refine' wpAnyH_take (i := 30) (oi := _) (v := _) rfl (by kernel_rfl) (by kernel_rfl) (by kernel_rfl) (fun _ _ _ h => h) (Or.inl ⟨by kernel_rfl, ?hyq85⟩) (by assumption) ?restq85
      case hyq85 => (intro w hSw; (try dsimp only at hSw); go_simp; try (with_reducible rfl))
      try simp only [List.getElem_toArray, List.getElem_cons_succ, List.getElem_cons_zero, Act.put, List.setIfInBounds_toArray, List.set_cons_zero, List.set_cons_succ]
      refine' wpAnyH_take (i := 31) (oi := _) (v := _) rfl (by kernel_rfl) (by kernel_rfl) (by kernel_rfl) (fun _ _ _ h => h) (Or.inl ⟨by kernel_rfl, ?hyq86⟩) (by assumption) ?restq86
      case hyq86 => (intro w hSw; (try dsimp only at hSw); go_simp; try (with_reducible rfl))
      try simp only [List.getElem_toArray, List.getElem_cons_succ, List.getElem_cons_zero, Act.put, List.setIfInBounds_toArray, List.set_cons_zero, List.set_cons_succ]
      refine' wpAnyH_take (i := 32) (oi := _) (v := _) rfl (by kernel_rfl) (by kernel_rfl) (by kernel_rfl) (fun _ _ _ h => h) (Or.inl ⟨by kernel_rfl, ?hyq87⟩) (by assumption) ?restq87
      case hyq87 => (intro w hSw; (try dsimp only at hSw); go_simp; try (with_reducible rfl))
      try simp only [List.getElem_toArray, List.getElem_cons_succ, List.getElem_cons_zero, Act.put, List.setIfInBounds_toArray, List.set_cons_zero, List.set_cons_succ]
      refine wpAnyH_done (by kernel_rfl) ?_ _
      all_goals
        go_wp2
        exact bodyPost_ret (v := .bool true) (by simp [results, Try.results4, go_sem]) rfl ⟨rfl, btr L23.out HK.out⟩
    ·
      subst h4; subst h1 h2 h3
      first | skip; go_region_held3 (fun w' => (w'.cell? ⟨w1.heap.size, 0, none⟩ = some (.int .u64 (hiW 0)) ∧ w'.cell? ⟨w1.heap.size, 1, none⟩ = some (.int .u64 (loW 0))) ∧ (w'.cell? ⟨wk.heap.size, 0, none⟩ = some (.int .u64 (hiW 0)) ∧ w'.cell? ⟨wk.heap.size, 1, none⟩ = some (.int .u64 (loW 0))) ∧ (w'.cell? ⟨w23.heap.size, 0, none⟩ = some (.int .u64 (hiW 0)) ∧ w'.cell? ⟨w23.heap.size, 1, none⟩ = some (.int .u64 (loW 0))) ∧ (w'.cell? ⟨w.heap.size, 0, none⟩ = some (.int .u64 9223372036854775808) ∧ w'.cell? ⟨w.heap.size, 1, none⟩ = some (.int .u64 0)) ∧ Below W24.heap.size W24 w') (first | exact ⟨⟨Bx1.out.1, Bx1.out.2.1⟩, ⟨Bo.out.1, Bo.out.2.1⟩, ⟨Bg.out.1, Bg.out.2.1⟩, ⟨Ba.out.1, Ba.out.2.1⟩, Below.drew (Below.refl _ _)⟩ | (have hk := HK.out; exact ⟨⟨(Bx1.out.to hk).1, (Bx1.out.to hk).2.1⟩, ⟨(Bo.out.to hk).1, (Bo.out.to hk).2.1⟩, ⟨(Bg.out.to hk).1, (Bg.out.to hk).2.1⟩, ⟨(Ba.out.to hk).1, (Ba.out.to hk).2.1⟩, hk⟩))
        (first
        | (go_at_call 10; refine (words_any _ _ _).mono ?_; rintro e wm ⟨rfl, hbk⟩; have HK := hid (show Below W24.heap.size W24 wm from (by first | exact btr HK.out hbk | exact btr (Below.drew (Below.refl _ _)) hbk)); clear hbk)
        | (go_at_call 13; refine (sign_any 0 _ (by unfold Amt; omega)).mono ?_; rintro e wm ⟨rfl, hbk⟩; have HK := hid (show Below W24.heap.size W24 wm from (by first | exact btr HK.out hbk | exact btr (Below.drew (Below.refl _ _)) hbk)); clear hbk))
            | fail "held"
      all_goals
        go_wp2
        exact bodyPost_ret (v := .bool true) (by simp [results, Try.results4, go_sem]) rfl ⟨rfl, btr L23.out HK.out⟩
end Go.Proofs.Ytcnbefggobgodab.moneyAdds
