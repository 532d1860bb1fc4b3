/-
  The document's example.
-/
import Derived.Test.YtphhllppgelceaaAcT
namespace Go.Proofs.Ytphhllppgelceaa.Ac
open Go.RowKit Go.Deep Go.Maps Go.Proofs.Ytphhllppgelceaa.MonM
set_option linter.unusedVariables false
set_option linter.unusedSimpArgs false
set_option maxHeartbeats 8000000
set_option maxRecDepth 100000
attribute [local go_sem ↓] Go.wp_at_zero Go.wp_at_succ
open Go.Proofs.Ytphhllppgelceaa.TexM
def lv0 : Ls := ls0 1 3 1000
def lv1 : Ls := opn lv0 1
def lv2 : Ls := opn lv1 2
def lv3 : Ls := ent lv2 (0, 3) (1, 1) 10000
def lvd : De := ⟨7, 1, 2, 1, 500, 10⟩
def lv4 : Ls := bkd lv3 lvd (bkA lv3 lvd) (bkC lv3 lvd)
theorem lv_0 : lv0.f (1, 1) = none := rfl
theorem lv_1 : lv1.f (2, 1) = none := by kernel_rfl
theorem lv_2 : (lv2.f (1, 1)).isSome = true := by kernel_rfl
theorem lv_3 : lv3.f (1, 1) = some 10000 := by kernel_rfl
theorem lv_b : bkc lv3 lvd = 0 := by kernel_rfl
theorem lv_a : absI (bkA lv3 lvd).qt = 10 := by kernel_rfl
theorem lv_c : absI (bkC lv3 lvd).qt = 10 := by kernel_rfl
theorem lv_e : lv4.es.length = 4 := by kernel_rfl
theorem lv_p : lv4.g 2 7 = ⟨-10, -5000, 0⟩ := by kernel_rfl
theorem lv_h : (lv4.f (0, 2)).getD 0 = 20 := by kernel_rfl
theorem lv_m : (lv4.f (1, 1)).getD 0 = 4985 := by kernel_rfl
theorem lv_no : ¬ Rf lv3 lvd := by
  rintro (h | h | h)
  · exact h lv_b
  · rw [lv_a] at h; omega
  · rw [lv_c] at h; omega
theorem u1 : U32 1 := u32_mk (by decide) (by decide)
theorem u2 : U32 2 := u32_mk (by decide) (by decide)
theorem u7 : U32 7 := u32_mk (by decide) (by decide)
theorem text_is (m : Int) (xs : List Int) (s : ByteArray) (w : World) (hm : Amt m) (h : IsText m xs) (hs : strOfNums xs = s) : Calls Try.prog 23 #[mv m] w fun e w' => e = .returned (.string s) ∧ Below w.heap.size w w' := by
  refine (text_walk m w hm).mono ?_
  rintro e w' ⟨⟨ys, hy, rfl⟩, hb⟩
  rw [isText_unique m ys xs hy h, hs]
  exact ⟨rfl, hb⟩
theorem text_20 (w : World) : Calls Try.prog 23 #[mv 20] w fun e w' => e = .returned (.string ⟨#[48, 46, 50, 48]⟩) ∧ Below w.heap.size w w' := text_is 20 [48, 46, 50, 48] _ w ⟨by decide, by decide⟩ ⟨3, ⟨by decide, by kernel_rfl, .inl rfl⟩, by kernel_rfl⟩ (by kernel_rfl)
theorem text_49 (w : World) : Calls Try.prog 23 #[mv 4985] w fun e w' => e = .returned (.string ⟨#[52, 57, 46, 56, 53]⟩) ∧ Below w.heap.size w w' := text_is 4985 [52, 57, 46, 56, 53] _ w ⟨by decide, by decide⟩ ⟨4, ⟨by decide, by kernel_rfl, .inr (by rw [show (if (4985 : Int) < 0 then -4985 else 4985) / p10 (4 - 1) = 4 from by kernel_rfl]; decide)⟩, by kernel_rfl⟩ (by kernel_rfl)
theorem text_50 (w : World) : Calls Try.prog 23 #[mv (-5000)] w fun e w' => e = .returned (.string ⟨#[45, 53, 48, 46, 48, 48]⟩) ∧ Below w.heap.size w w' := text_is (-5000) [45, 53, 48, 46, 48, 48] _ w ⟨by decide, by decide⟩ ⟨4, ⟨by decide, by kernel_rfl, .inr (by rw [show (if (-5000 : Int) < 0 then - -5000 else -5000) / p10 (4 - 1) = 5 from by kernel_rfl]; decide)⟩, by kernel_rfl⟩ (by kernel_rfl)
/-- a ledger that was made behind w. -/
def Nl (w W : World) (G k : Nat) (s : Ls) : Prop := ∃ O, Lg W G O k s ∧ Below w.heap.size w W ∧ ∀ b, O b → w.heap.size ≤ b
theorem Nl.on {w W U : World} {G k : Nat} {s : Ls} (h : Nl w W G k s) (hb : Below W.heap.size W U) : Nl w U G k s := by
  obtain ⟨O, h1, h2, h3⟩ := h
  exact ⟨O, h1.on hb, btr h2 hb, h3⟩
theorem Nl.step {w W U : World} {G k' : Nat} {s' : Ls} {O : Nat → Prop} (h2 : Below w.heap.size w W) (h3 : ∀ b, O b → w.heap.size ≤ b) (h : ∃ O', Lg U G O' k' s' ∧ Kp O W U ∧ Ex W O O') : Nl w U G k' s' := by
  obtain ⟨O', a, b, c⟩ := h
  refine ⟨O', a, h2.trans (b.below h2.size (fun j hj e => by have := h3 j e; omega)), fun j hj => ?_⟩
  rcases c j hj with h | h
  · exact h3 j h
  · exact Nat.le_trans h2.size h
theorem Nl.below {w W : World} {G k : Nat} {s : Ls} (h : Nl w W G k s) : Below w.heap.size w W := by obtain ⟨O, h1, h2, h3⟩ := h; exact h2
theorem nl_new (ma ta bb : Int) (w : World) (h0 : 0 ≤ ma) (h1 : 0 ≤ ta) (h2 : 0 < bb) (h3 : ma ≤ bb) (h4 : ta ≤ bb) (h5 : bb < 4294967296) :
    Calls Try.prog 19 #[.agg #[.int .u32 ma, .int .u32 ta, .int .u32 bb]] w fun e w' => ∃ G, e = .returned (.tuple #[.pointer (some ⟨G, 0, none⟩), .int .i64 0]) ∧ Nl w w' G 0 (ls0 ma ta bb) := by
  refine (new_ok ma ta bb w h0 h1 h2 h3 h4 h5).mono ?_
  rintro e w' ⟨G, rfl, a, b, c⟩
  exact ⟨G, rfl, _, b, c, fun j hj => by rw [hj]; exact a⟩
theorem nl_open {w W : World} {G k : Nat} {s : Ls} (h : Nl w W G k s) (m : Int) (hm : U32 m) (h0 : m ≠ 0) (hf : s.f (m, 1) = none) (hk : k < maxLen) : Calls Try.prog 20 #[.pointer (some ⟨G, 0, none⟩), .int .u32 m] W fun e w' => e = .returned (.int .i64 0) ∧ Nl w w' G (k + 1) (opn s m) := by
  obtain ⟨O, h1, h2, h3⟩ := h
  exact (open_new h1 m hm h0 hf hk).mono (fun e w' hh => ⟨hh.1, Nl.step h2 h3 hh.2⟩)
theorem nl_deposit {w W : World} {G k : Nat} {s : Ls} (h : Nl w W G k s) (m v : Int) (hm : U32 m) (hf : (s.f (m, 1)).isSome = true) (hv0 : 0 < v) (hv1 : v ≤ 1000000) (hk : k ≤ 1000000000000) : Calls Try.prog 21 #[.pointer (some ⟨G, 0, none⟩), .int .u32 m, mv v] W fun e w' => e = .returned (.int .i64 0) ∧ Nl w w' G (k + 3) (ent s (0, 3) (m, 1) v) := by
  obtain ⟨O, h1, h2, h3⟩ := h
  exact (deposit_ok h1 m v hm hf hv0 hv1 hk).mono (fun e w' hh => ⟨hh.1, Nl.step h2 h3 hh.2⟩)
theorem nl_withdraw {w W : World} {G k : Nat} {s : Ls} (h : Nl w W G k s) (m v x : Int) (hm : U32 m) (hf : s.f (m, 1) = some x) (hx : Amt x) (hxv : x < v) (hv0 : 0 < v) (hv1 : v ≤ 1000000) : Calls Try.prog 22 #[.pointer (some ⟨G, 0, none⟩), .int .u32 m, mv v] W fun e w' => e = .returned (.int .i64 202) ∧ Nl w w' G k s := by
  obtain ⟨O, h1, h2, h3⟩ := id h
  exact (withdraw_funds h1 m v x hm hf hx hxv hv0 hv1).mono (fun e w' hh => ⟨hh.1, h.on hh.2⟩)
theorem nl_book {w W : World} {G k : Nat} {s : Ls} (h : Nl w W G k s) (d : De) (hd : DeOk d) (hk : k + 13 ≤ 1000000000000) : Calls Try.prog 17 #[.pointer (some ⟨G, 0, none⟩), .agg d.row] W fun e w' => ∃ r s', e = .returned (.int .i64 r) ∧ Nl w w' G (k + 13) s' ∧ (r ≠ 0 ∧ s' = s ∧ Rf s d ∨ r = 0 ∧ Bkd s d s') := by
  obtain ⟨O, h1, h2, h3⟩ := h
  refine (book_any h1 d hd hk).mono ?_
  rintro e w' ⟨r, s', O', rfl, a, b, c, x⟩
  exact ⟨r, s', rfl, Nl.step h2 h3 ⟨O', a, b, c⟩, x⟩
theorem nl_lv {w W : World} {G k : Nat} (h : Nl w W G k lv3) (hk : k + 13 ≤ 1000000000000) : Calls Try.prog 17 #[.pointer (some ⟨G, 0, none⟩), .agg #[.int .u32 7, .int .u32 1, .int .u32 2, .int .i64 1, .int .i64 500, .int .u64 10]] W fun e w' => e = .returned (.int .i64 0) ∧ Nl w w' G (k + 13) lv4 := by
  refine (nl_book h lvd ⟨u7, u1, u2, by decide, by decide⟩ hk).mono ?_
  rintro e w' ⟨r, s', rfl, a, ⟨_, _, c⟩ | ⟨rfl, c⟩⟩
  · exact absurd c lv_no
  · have := c.st
    subst this
    exact ⟨rfl, a⟩
theorem nl_position {w W : World} {G k : Nat} {s : Ls} (h : Nl w W G k s) (m i : Int) (hm : U32 m) (hi : U32 i) : Calls Try.prog 18 #[.pointer (some ⟨G, 0, none⟩), .int .u32 m, .int .u32 i] W fun e w' => e = .returned (.agg (s.g m i).row) ∧ Below W.heap.size W w' := by
  obtain ⟨O, h1, h2, h3⟩ := h
  exact position_any h1 m i hm hi
theorem nl_balance {w W : World} {G k : Nat} {s : Ls} (h : Nl w W G k s) (m t : Int) (hm : U32 m) (ht : (Lit.int .i64 t).wf = true) : Calls Try.prog 14 #[.pointer (some ⟨G, 0, none⟩), .agg #[.int .u32 m, .int .i64 t]] W fun e w' => e = .returned (mv ((s.f (m, t)).getD 0)) ∧ Below W.heap.size W w' := by
  obtain ⟨O, h1, h2, h3⟩ := h
  exact balance_any h1 m t hm ht
theorem nl_entries {w W : World} {G k : Nat} {s : Ls} (h : Nl w W G k s) (hk : k ≤ 1000000000000) : Calls Try.prog 10 #[.pointer (some ⟨G, 0, none⟩)] W fun e w' => ∃ p' c', e = .returned (.slice p' s.es.length c') ∧ Below W.heap.size W w' := by
  obtain ⟨O, h1, h2, h3⟩ := h
  exact entries_any h1 hk
theorem lives_ok (w : World) : Calls Try.prog 6 #[] w fun e w' => e = .returned (.bool true) ∧ Below w.heap.size w w' := by
  have C1 := hid (show Calls Try.prog 19 #[.agg #[.int .u32 1, .int .u32 3, .int .u32 1000]] w _ from nl_new 1 3 1000 w (by decide) (by decide) (by decide) (by decide) (by decide) (by decide))
  have C13a := hid (show ∀ U, Calls Try.prog 11 #[.int .i64 10000] U fun e w' => e = .returned (.agg #[.int .u64 (hiW 10000), .int .u64 (loW 10000)]) ∧ Below U.heap.size U w' from fun U => cents_any 10000 U (by decide) (by decide))
  have C13b := hid (show ∀ U, Calls Try.prog 11 #[.int .i64 10001] U fun e w' => e = .returned (.agg #[.int .u64 (hiW 10001), .int .u64 (loW 10001)]) ∧ Below U.heap.size U w' from fun U => cents_any 10001 U (by decide) (by decide))
  have T20 := hid (show ∀ U, Calls Try.prog 23 #[.agg #[.int .u64 (hiW 20), .int .u64 (loW 20)]] U fun e w' => e = .returned (.string ⟨#[48, 46, 50, 48]⟩) ∧ Below U.heap.size U w' from text_20)
  have T49 := hid (show ∀ U, Calls Try.prog 23 #[.agg #[.int .u64 (hiW 4985), .int .u64 (loW 4985)]] U fun e w' => e = .returned (.string ⟨#[52, 57, 46, 56, 53]⟩) ∧ Below U.heap.size U w' from text_49)
  have T50 := hid (show ∀ U, Calls Try.prog 23 #[.agg #[.int .u64 (hiW (-5000)), .int .u64 (loW (-5000))]] U fun e w' => e = .returned (.string ⟨#[45, 53, 48, 46, 48, 48]⟩) ∧ Below U.heap.size U w' from text_50)
  go_enter Try.func6, Try.ntmps6
  go_upto_region 2 with (go_at_call 19; with_reducible refine C1.out.mono ?_; rintro e w1 ⟨G, rfl, hl⟩; have L1 := hid hl; clear hl)
  clear C1
  have C2 := hid (show Calls Try.prog 20 #[.pointer (some ⟨G, 0, none⟩), .int .u32 1] w1 fun e w' => e = .returned (.int .i64 0) ∧ Nl w w' G 1 lv1 from nl_open L1.out 1 u1 (by decide) lv_0 (by decide))
  have C3 := hid (show ∀ U, Nl w U G 1 lv1 → Calls Try.prog 20 #[.pointer (some ⟨G, 0, none⟩), .int .u32 2] U fun e w' => e = .returned (.int .i64 0) ∧ Nl w w' G 2 lv2 from fun U hU => nl_open hU 2 u2 (by decide) lv_1 (by decide))
  have C4 := hid (show ∀ U, Nl w U G 2 lv2 → Calls Try.prog 21 #[.pointer (some ⟨G, 0, none⟩), .int .u32 1, .agg #[.int .u64 (hiW 10000), .int .u64 (loW 10000)]] U fun e w' => e = .returned (.int .i64 0) ∧ Nl w w' G 5 lv3 from fun U hU => nl_deposit hU 1 10000 u1 lv_2 (by decide) (by decide) (by decide))
  have C5 := hid (show ∀ U, Nl w U G 5 lv3 → Calls Try.prog 22 #[.pointer (some ⟨G, 0, none⟩), .int .u32 1, .agg #[.int .u64 (hiW 10001), .int .u64 (loW 10001)]] U fun e w' => e = .returned (.int .i64 202) ∧ Nl w w' G 5 lv3 from fun U hU => nl_withdraw hU 1 10001 10000 u1 lv_3 ⟨by decide, by decide⟩ (by decide) (by decide) (by decide))
  have C6 := hid (show ∀ U, Nl w U G 5 lv3 → Calls Try.prog 17 #[.pointer (some ⟨G, 0, none⟩), .agg #[.int .u32 7, .int .u32 1, .int .u32 2, .int .i64 1, .int .i64 500, .int .u64 10]] U fun e w' => e = .returned (.int .i64 0) ∧ Nl w w' G 18 lv4 from fun U hU => nl_lv hU (by decide))
  have C7 := hid (show ∀ U, Nl w U G 18 lv4 → Calls Try.prog 10 #[.pointer (some ⟨G, 0, none⟩)] U fun e w' => ∃ p' c', e = .returned (.slice p' 4 c') ∧ Below U.heap.size U w' from fun U hU => by have h1 := nl_entries hU (by decide); rw [lv_e] at h1; exact h1)
  have C8 := hid (show ∀ U, Nl w U G 18 lv4 → Calls Try.prog 18 #[.pointer (some ⟨G, 0, none⟩), .int .u32 2, .int .u32 7] U fun e w' => e = .returned (.agg #[.int .i64 (-10), .int .u64 (hiW (-5000)), .int .u64 (loW (-5000)), .int .u64 (hiW 0), .int .u64 (loW 0)]) ∧ Below U.heap.size U w' from fun U hU => by have h1 := nl_position hU 2 7 u2 u7; rw [lv_p] at h1; exact h1)
  have C9 := hid (show ∀ U, Nl w U G 18 lv4 → Calls Try.prog 14 #[.pointer (some ⟨G, 0, none⟩), .agg #[.int .u32 0, .int .i64 2]] U fun e w' => e = .returned (.agg #[.int .u64 (hiW 20), .int .u64 (loW 20)]) ∧ Below U.heap.size U w' from fun U hU => by have h1 := nl_balance hU 0 2 u320 wf2; rw [lv_h] at h1; exact h1)
  have C10 := hid (show ∀ U, Nl w U G 18 lv4 → Calls Try.prog 14 #[.pointer (some ⟨G, 0, none⟩), .agg #[.int .u32 1, .int .i64 1]] U fun e w' => e = .returned (.agg #[.int .u64 (hiW 4985), .int .u64 (loW 4985)]) ∧ Below U.heap.size U w' from fun U hU => by have h1 := nl_balance hU 1 1 u1 wf1; rw [lv_m] at h1; exact h1)
  clear L1
  go_upto_region 4 with (first | (go_at_call 20; with_reducible refine C2.out.mono ?_; rintro e w2 ⟨rfl, hl⟩; have L2 := hid hl; clear hl) | (go_at_call 20; with_reducible refine (C3.out _ L2.out).mono ?_; rintro e w3 ⟨rfl, hl⟩; have L3 := hid hl; clear hl) | (go_at_call 11; with_reducible refine (C13a.out _).mono ?_; rintro e w4 ⟨rfl, hb⟩; have L4 := hid (L3.out.on hb); clear hb) | (go_at_call 21; with_reducible refine (C4.out _ L4.out).mono ?_; rintro e w5 ⟨rfl, hl⟩; have L5 := hid hl; clear hl) | (go_at_call 11; with_reducible refine (C13b.out _).mono ?_; rintro e w6 ⟨rfl, hb⟩; have L6 := hid (L5.out.on hb); clear hb) | (go_at_call 22; with_reducible refine (C5.out _ L6.out).mono ?_; rintro e w7 ⟨rfl, hl⟩; have L7 := hid hl; clear hl))
  clear C2 C3 C4 C5 C13a C13b
  go_upto_region 6 with (first | (go_at_call 17; with_reducible refine (C6.out _ L7.out).mono ?_; rintro e w8 ⟨rfl, hl⟩; have L8 := hid hl; clear hl) | (go_at_call 10; with_reducible refine (C7.out _ L8.out).mono ?_; rintro e w9 ⟨p9, c9, rfl, hb⟩; have L9 := hid (L8.out.on hb); clear hb))
  go_upto_region 7 with (first | (go_at_call 18; with_reducible refine (C8.out _ L9.out).mono ?_; rintro e w10 ⟨rfl, hb⟩; have L10 := hid (L9.out.on hb); have HZ := hid (World.alloc_heap_new w10 (.cells #[.int .i64 0, .int .u64 0, .int .u64 0, .int .u64 0, .int .u64 0] 55)); clear hb) | (refine wpList_store_row (by rfl) 55 (.tmp 3) (.tmp 48) (by rfl) w10.heap.size #[.int .i64 (-10), .int .u64 (hiW (-5000)), .int .u64 (loW (-5000)), .int .u64 (hiW 0), .int .u64 (loW 0)] (by rfl) (by rfl) 55 _ HZ.out infoPo5 (by rfl) (by simp [Value.oneCell']) ?_))
  obtain ⟨X, hX⟩ : ∃ X, (w10.alloc (.cells #[.int .i64 0, .int .u64 0, .int .u64 0, .int .u64 0, .int .u64 0] 55)).setRow w10.heap.size #[.int .i64 (-10), .int .u64 (hiW (-5000)), .int .u64 (loW (-5000)), .int .u64 (hiW 0), .int .u64 (loW 0)] = X := ⟨_, rfl⟩
  have GX := hid (show X.heap[w10.heap.size]? = some (.cells #[.int .i64 (-10), .int .u64 (hiW (-5000)), .int .u64 (loW (-5000)), .int .u64 (hiW 0), .int .u64 (loW 0)] 55 (0, 0)) from by rw [← hX]; exact setRow_heap _ _ _ _ 55 (0, 0) HZ.out)
  have LX := hid (L10.out.on (show Below w10.heap.size w10 X from by rw [← hX]; exact setRow_below (ball _ _) (Nat.le_refl _)))
  rw [hX]
  obtain ⟨t, ht⟩ : ∃ t, w10.heap.size = t := ⟨_, rfl⟩
  rw [ht] at GX ⊢
  clear hX HZ ht
  go_wp2_with (first | (go_at_call 14; with_reducible refine (C9.out _ LX.out).mono ?_; rintro e w11 ⟨rfl, hb⟩; have L11 := hid (LX.out.on hb); have G11 := hid (row_on GX.out hb); clear hb) | (go_at_call 23; with_reducible refine (T20.out _).mono ?_; rintro e w12 ⟨rfl, hb⟩; have L12 := hid (L11.out.on hb); have G12 := hid (row_on G11.out hb); clear hb) | (go_at_call 14; with_reducible refine (C10.out _ L12.out).mono ?_; rintro e w13 ⟨rfl, hb⟩; have L13 := hid (L12.out.on hb); have G13 := hid (row_on G12.out hb); clear hb) | (go_at_call 23; with_reducible refine (T49.out _).mono ?_; rintro e w14 ⟨rfl, hb⟩; have L14 := hid (L13.out.on hb); have G14 := hid (row_on G13.out hb); have g0 := row_cell G14.out 0; have g1 := row_cell G14.out 1; have g2 := row_cell G14.out 2; simp only [List.getElem?_toArray, List.getElem?_cons_succ, List.getElem?_cons_zero] at g0 g1 g2; clear hb) | (go_at_call 23; with_reducible refine (T50.out _).mono ?_; rintro e w15 ⟨rfl, hb⟩; have L15 := hid (L14.out.on hb); clear hb))
  go_ret
  exact ⟨rfl, L15.out.below⟩

end Go.Proofs.Ytphhllppgelceaa.Ac
