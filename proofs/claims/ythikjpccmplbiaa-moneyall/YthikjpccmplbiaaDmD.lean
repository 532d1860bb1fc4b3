/-
  The document's amount of a text.
-/
import Derived.Test.YthikjpccmplbiaaDmQ
namespace Go.Proofs.Ythikjpccmplbiaa.Dm
open Go.RowKit Go.Deep BigM MonM TexM ParM
set_option linter.unusedVariables false
set_option linter.unusedSimpArgs false
set_option maxHeartbeats 8000000
set_option maxRecDepth 100000
attribute [local go_sem ↓] Go.wp_at_zero Go.wp_at_succ
def RefP (s : ByteArray) (e : Ending) (w' : World) : Prop := ∃ v m er, e = .returned (.tuple #[v, .int .i64 er]) ∧ Am w' v m ∧ ((Amt m ∧ IsText m (nums s) ∧ er = 0) ∨ ((∀ m', Amt m' → ¬ IsText m' (nums s)) ∧ er = 3 ∧ m = 0))
theorem am_zero (w : World) : Am w (.agg #[.bool false, .slice none 0 0]) 0 := ⟨_, rfl, bn_nil w⟩
theorem am_row {w : World} {v : Value} {m : Int} {g : Nat} {cs old : Array Value} (h : Am w v m) (hg : w.heap[g]? = some (.cells old 31 (0, 0))) : Am (w.setRow g cs) v m := by
  obtain ⟨u, e, ds, h1, h2⟩ := h
  refine ⟨u, e, ds, ?_, h2⟩
  rcases h1 with h1 | ⟨b, o, cap, e1, l1, l2, ⟨cur, hc⟩, h3⟩
  · exact .inl h1
  · have hne : b ≠ g := fun e => by
      rw [e, hg] at hc
      injection hc with hc
      injection hc with _ hc
      cases hc
    refine .inr ⟨b, o, cap, e1, l1, l2, ⟨cur, by rw [setRow_other w g b cs hne]; exact hc⟩, fun j hj => ?_⟩
    rw [← h3 j hj]
    simp only [World.cell?, setRow_other w g b cs hne]
theorem refparse_any (s : ByteArray) (w : World) (hs : s.size ≤ maxLen) :
    Calls Try.prog 19 #[.string s] w fun e w' => RefP s e w' ∧ Below w.heap.size w w' := by
  obtain ⟨W1, hW1⟩ : ∃ W, w.alloc (.cells #[.bool false, .slice none 0 0] 31) = W := ⟨_, rfl⟩
  have B1 := hid (show Below w.heap.size w W1 from by rw [← hW1]; exact ball _ _)
  have R1 := hid (show W1.heap[w.heap.size]? = some (.cells #[.bool false, .slice none 0 0] 31 (0, 0)) from by rw [← hW1]; exact World.alloc_heap_new _ _)
  obtain ⟨g, hg⟩ : ∃ g, w.heap.size = g := ⟨_, rfl⟩
  have HG := hid hg
  rw [hg] at R1
  unfold maxLen at hs
  by_cases h60 : 60 < s.size
  · have c60 : (60 : Int) < (s.size : Int) := by omega
    have NO := hid (show ∀ m', Amt m' → ¬ IsText m' (nums s) from fun m' ha ht => by
      have := text_size m' ha _ ht
      rw [nums_len] at this
      omega)
    go_enter Try.func19, Try.ntmps19
    go_wp2_with (refine wpList_store_row (by rfl) 31 (.tmp 2) (.tmp 11) (by rfl) g #[.bool false, .slice none 0 0] (by rfl) (by rfl) 31 _ R1.out (am_info _ _) (am_size _ _ _ _) (am_all _ _ _ _) ?_)
    refine bodyPost_ret (res_ct Try.results19 _ _ g 31 #[.bool false, .slice none 0 0] (0, 0) _ (.int .i64 3) (by rfl) (by rfl) (setRow_heap _ _ _ _ 31 (0, 0) R1.out) Try.underlying31 rfl info32) rfl ⟨?_, setRow_below B1.out (Nat.le_of_eq HG.out)⟩
    exact ⟨_, 0, 3, rfl, am_zero _, .inr ⟨NO.out, rfl, rfl⟩⟩
  · have c60 : decide ((60 : Int) < (s.size : Int)) = false := by rw [decide_eq_false_iff_not]; omega
    have hs60 : s.size ≤ 60 := by omega
    have HVB := hid (show ∀ i, 0 ≤ ds ((nums s).take i) 0 ∧ ds ((nums s).take i) 0 < 1000000000000000000000000000000000000000000000000000000000000 from fun i => by
      have h1 := ds_bd ((nums s).take i)
      have h2 : ((nums s).take i).length ≤ 60 := by rw [List.length_take, nums_len]; omega
      have h3 := p10_le _ 60 h2
      rw [p60] at h3
      omega)
    have HPW := hid (show (1000000000000000000000000000000000000000000000000000000000000 : Int) * 100 < pw 1000 from by
      have h : pw 8 ≤ pw 1000 := pw_le 8 1000 (by decide)
      have e : pw 8 = 115792089237316195423570985008687907853269984665640564039457584007913129639936 := by decide
      omega)
    obtain ⟨W2, hW2⟩ : ∃ W, W1.alloc (.cells #[] 37) = W := ⟨_, rfl⟩
    have b2 : Below W1.heap.size W1 W2 := by rw [← hW2]; exact ball _ _
    have N0 := hid (show Bn W2 (.slice (some ⟨W1.heap.size, 0, none⟩) 0 0) (ds ((nums s).take 0) 0) from by rw [← hW2]; exact bn_empty W1 _ _ ⟨_, World.alloc_heap_new _ _⟩)
    have R2 := hid (row_on R1.out b2)
    have B2 := hid (btr B1.out b2)
    clear b2 R1 B1 h60 hs
    go_enter Try.func19, Try.ntmps19
    go_upto_region 5 with fail
    go_loopw [4, 5] (fun sv iv wr => ∃ i, i ≤ s.size ∧ iv = .int .i64 (i : Nat) ∧ Hid (Bn wr sv (ds ((nums s).take i) 0)) ∧ Hid (wr.heap[g]? = some (.cells #[.bool false, .slice none 0 0] 31 (0, 0))) ∧ Hid (Below w.heap.size w wr)) (fun _ iv _ => s.size - (intOf iv).toNat)
    case atStart => exact ⟨0, Nat.zero_le _, rfl, N0, R2, B2⟩
    case round =>
      obtain ⟨i, hin, rfl, BN, RW, BW⟩ := hrel
      clear N0 R2 B2
      obtain ⟨a, n, c, rfl, hm⟩ := bn_form BN.out
      by_cases hlt : i < s.size
      · have ht := take_nums s i hlt
        obtain ⟨x, hx⟩ : ∃ x : Int, ((s[i]'hlt).toNat : Int) = x := ⟨_, rfl⟩
        rw [hx] at ht
        have x0 : 0 ≤ x := by omega
        have x1 : x < 256 := by have := (s[i]'hlt).toNat_lt; omega
        have HDS := hid (show ds ((nums s).take (i + 1)) 0 = dstep (ds ((nums s).take i) 0) x from by rw [ht, ds_snoc])
        have hb := HVB.out i
        obtain ⟨V, hV⟩ : ∃ V, ds ((nums s).take i) 0 = V := ⟨_, rfl⟩
        rw [hV] at BN HDS hb
        have i0 : (0 : Int) ≤ (i : Int) := by omega
        have i1 : (i : Int) < (s.size : Int) := by omega
        have wi : IntKind.i64.wrap ((i : Int) + 1) = ((i + 1 : Nat) : Int) := by rw [IntKind.wrap_i64]; omega
        have HLT := hid hlt
        have HBV := hid hb
        clear ht hV hb hm
        by_cases hd : 48 ≤ x ∧ x ≤ 57
        · obtain ⟨d0, d1⟩ := hd
          have HNX := hid (show ds ((nums s).take (i + 1)) 0 = V * 10 + (x - 48) from by rw [HDS.out]; unfold dstep; rw [if_pos ⟨d0, d1⟩])
          have u1 : IntKind.u8.wrap (x - 48) = x - 48 := by rw [IntKind.wrap_u8]; omega
          have u2 : IntKind.u64.wrap (x - 48) = x - 48 := by rw [IntKind.wrap_u64]; omega
          have COF := hid (fun U => of_any (x - 48) U ⟨by omega, by omega⟩)
          have HXB := hid (And.intro d0 d1)
          obtain ⟨A, hA⟩ : ∃ A, wr.alloc (.cells #[.int .u32 10] 37) = A := ⟨_, rfl⟩
          have bA : Below wr.heap.size wr A.drew := by rw [← hA]; exact btr (ball _ _) (bdrewN _ 1)
          have NA := hid (BN.out.to bA)
          have NT := hid (show Bn A.drew (.slice (some ⟨wr.heap.size, 0, none⟩) 1 1) 10 from (show Bn A (.slice (some ⟨wr.heap.size, 0, none⟩) 1 1) 10 from by rw [← hA]; exact bn_digit wr 10 (by decide) (by decide)).to (bdrewN _ 1))
          have RA := hid (row_on RW.out bA)
          have LA := hid (btr BW.out bA)
          have HXA := hid (show V < pw 1000 ∧ (10 : Int) < pw 1000 ∧ V * 10 < pw 1000 ∧ x - 48 < pw 1000 from by have := HPW.out; have := HBV.out; omega)
          have hgA : g < wr.heap.size := row_lt RW.out
          have cA := row_cell RA.out 0
          have HC := hid (show ∀ U : World, U.heap[g]? = some (.cells #[.bool false, .slice none 0 0] 31 (0, 0)) → U.cell? ⟨g, 0, none⟩ = some (.bool false) from fun U h => row_cell h 0)
          have c0 := HC.out _ RW.out
          go_upto_region 8 with fail
          clear bA d0 d1 x0 x1 BN RW BW
          go_region_held3 (fun U => U.cell? ⟨g, 0, none⟩ = some (.bool false)) (go_keep) (first | (go_at_call 37; with_reducible refine (times_any _ _ _ _ _ NA.out NT.out HXA.out.1 HXA.out.2.1).mono ?_; rintro e w3 ⟨⟨u3, rfl, h1⟩, h2⟩; have N3 := hid h1; have R3 := hid (row_on RA.out h2); have c3 := HC.out _ R3.out; have L3 := hid (btr LA.out h2); clear h1 h2) | (go_at_call 35; with_reducible refine (COF.out _).mono ?_; rintro e w4 ⟨⟨u4, rfl, h1⟩, h2⟩; have N4 := hid h1; have N3' := hid (N3.out.to h2); have R4 := hid (row_on R3.out h2); have c4 := HC.out _ R4.out; have L4 := hid (btr L3.out h2); clear h1 h2) | (go_at_call 40; with_reducible refine (plus_any _ _ _ _ _ N3'.out N4.out HXA.out.2.2.1 HXA.out.2.2.2).mono ?_; rintro e w5 ⟨⟨u5, rfl, h1⟩, h2⟩; have N5 := hid h1; have R5 := hid (row_on R4.out h2); have c5 := HC.out _ R5.out; have L5 := hid (btr L4.out h2); clear h1 h2))
          all_goals
            go_wp2
            go_roundw
            case rel => exact ⟨i + 1, HLT.out, by go_num, hid (by rw [HNX.out]; exact N5.out), R5, L5⟩
            case measure => have := HLT.out; simp [intOf]; omega
        · have HNX := hid (show ds ((nums s).take (i + 1)) 0 = V from by rw [HDS.out]; unfold dstep; rw [if_neg hd])
          by_cases d0 : 48 ≤ x
          · have d1 : decide (x ≤ 57) = false := by rw [decide_eq_false_iff_not]; omega
            clear hd
            go_wp2
            go_roundw
            case rel => exact ⟨i + 1, HLT.out, by go_num, hid (by rw [HNX.out]; exact BN.out), RW, BW⟩
            case measure => have := HLT.out; simp [intOf]; omega
          · have d1 : decide (48 ≤ x) = false := by rw [decide_eq_false_iff_not]; omega
            clear hd d0
            go_wp2
            go_roundw
            case rel => exact ⟨i + 1, HLT.out, by go_num, hid (by rw [HNX.out]; exact BN.out), RW, BW⟩
            case measure => have := HLT.out; simp [intOf]; omega
      · obtain rfl : i = s.size := by omega
        rw [List.take_of_length_le (by rw [nums_len]; exact Nat.le_refl _)] at BN
        have hxb := HVB.out s.size
        rw [List.take_of_length_le (by rw [nums_len]; exact Nat.le_refl _)] at hxb
        have HBK := hid (fun m' (h : IsText m' (nums s)) => back h)
        have HAB := hid (fun m' (h : IsText m' (nums s)) => (ds_text h).1)
        obtain ⟨x, hx⟩ : ∃ x, ds (nums s) 0 = x := ⟨_, rfl⟩
        rw [hx] at BN HBK HAB hxb
        obtain ⟨bl, hbl⟩ : ∃ bl : Bool, decide ((nums s).head? = some 45) = bl := ⟨_, rfl⟩
        have HBL := hid (show ∀ m', IsText m' (nums s) → m' = if bl then -x else x from fun m' h => by
          rw [HBK.out m' h, ← hbl]
          by_cases e : (nums s).head? = some 45
          · simp [e]
          · simp [e])
        have CA := hid (fun U (h : Bn U (.slice a n c) x) => amount_any bl _ x U h (by have := HPW.out; omega))
        have HFST := hid (show (decide (0 < s.size) = false ∧ bl = false) ∨ ∃ h : 0 < s.size, decide ((0 : Int) < (s.size : Int)) = true ∧ ((((s[0]'h).toNat : Int) == 45) = bl) from by
          by_cases h : 0 < s.size
          · refine .inr ⟨h, by simp; omega, ?_⟩
            rw [← hbl]
            have : (nums s).head? = some ((s[0]'h).toNat : Int) := by
              unfold nums
              rw [List.head?_map]
              have : s.data.toList.head? = some (s[0]'h) := by
                rw [List.head?_eq_getElem?]
                rw [List.getElem?_eq_getElem (by simpa using h)]
                rfl
              rw [this]
              rfl
            rw [this, Bool.eq_iff_iff]
            simp
          · refine .inl ⟨decide_eq_false h, ?_⟩
            rw [← hbl]
            have : nums s = [] := List.length_eq_zero_iff.1 (by rw [nums_len]; omega)
            rw [this]
            rfl)
        clear hx hbl HBK hxb HVB
        by_cases hc : x ≤ 170141183460469231731687303715884105727
        · obtain ⟨m, hm9⟩ : ∃ m, (if bl then -x else x) = m := ⟨_, rfl⟩
          have hxn := BN.out.nonneg
          have HMA := hid (show Amt m from by rw [← hm9]; unfold Amt; cases bl <;> simp <;> omega)
          have CB := hid (fun U (h : Bn U (.slice a n c) x) => (show Calls Try.prog 41 #[.bool bl, .slice a n c] U fun e w' => (∃ u, e = .returned (.tuple #[.agg #[.bool (decide (m < 0)), u], .int .i64 0]) ∧ Bn w' u (absI m)) ∧ Below U.heap.size U w' from (CA.out U h).mono (fun e w' ⟨h1, h2⟩ => ⟨by
            rcases h1 with ⟨_, v, e1, u, e2, e3⟩ | ⟨h9, _⟩
            · rw [hm9] at e2 e3
              exact ⟨u, by rw [e1, e2], e3⟩
            · exact absurd hc h9, h2⟩)))
          rw [hm9] at HBL
          obtain ⟨sb, hsb⟩ : ∃ sb, decide (m < 0) = sb := ⟨_, rfl⟩
          rw [hsb] at CB
          have HSB := hid hsb
          clear CA hc hm9 hxn hsb
          rcases HFST.out with ⟨q0, rfl⟩ | ⟨h9, q0, q1⟩
          all_goals
            go_upto_region 10 with (go_at_call 41; with_reducible refine (CB.out _ BN.out).mono ?_; rintro e w3 ⟨⟨u3, rfl, h1⟩, h2⟩; have N3 := hid h1; have R3 := hid (row_on RW.out h2); have L3 := hid (btr BW.out h2); clear h1 h2; obtain ⟨a3, n3, c3, rfl, _⟩ := bn_form N3.out)
            obtain ⟨X, hX⟩ : ∃ X, w3.alloc (.cells #[.bool sb, .slice a3 n3 c3] 31) = X := ⟨_, rfl⟩
            have bX : Below w3.heap.size w3 X := by rw [← hX]; exact ball _ _
            have zX := hid (show X.heap[w3.heap.size]? = some (.cells #[.bool sb, .slice a3 n3 c3] 31 (0, 0)) from by rw [← hX]; exact World.alloc_heap_new _ _)
            have AX := hid (show Am X (.agg #[.bool sb, .slice a3 n3 c3]) m from ⟨_, by rw [HSB.out], N3.out.to bX⟩)
            have RX := hid (row_on R3.out bX)
            have LX := hid (btr L3.out bX)
            have k0 : X.cell? ⟨w3.heap.size, 0, none⟩ = some (.bool sb) := row_cell zX.out 0
            have k1 : X.cell? ⟨w3.heap.size, 1, none⟩ = some (.slice a3 n3 c3) := row_cell zX.out 1
            have CT := hid (reftext_any _ m X AX.out HMA.out)
            rw [hX]
            clear hX bX N3 R3 L3
            go_wp2_with fail
            refine CT.out.mono ?_
            rintro e Y ⟨⟨xs, hxs, rfl⟩, hY⟩
            have HXS := hid hxs
            have RY := hid (row_on RX.out hY)
            have zY := hid (row_on zX.out hY)
            have LY := hid (btr LX.out hY)
            have AY := hid (AX.out.on hY)
            obtain ⟨T, hT⟩ : ∃ T, strOfNums xs = T := ⟨_, rfl⟩
            have HTT := hid hT
            rw [hT]
            clear hxs hY hT k0 k1 CT zX RX LX AX
            by_cases hTs : T = s
            · subst hTs
              have YES := hid (show IsText m (nums T) from by rw [← HTT.out, nums_strOfNums xs (text_bytes m xs HXS.out)]; exact HXS.out)
              have k0 : Y.cell? ⟨w3.heap.size, 0, none⟩ = some (.bool sb) := row_cell zY.out 0
              have k1 : Y.cell? ⟨w3.heap.size, 1, none⟩ = some (.slice a3 n3 c3) := row_cell zY.out 1
              go_wp2_with (refine wpList_store_row (by rfl) 31 (.tmp 2) (.tmp 61) (by rfl) g #[.bool sb, .slice a3 n3 c3] (by rfl) (by rfl) 31 _ RY.out (am_info _ _) (am_size _ _ _ _) (am_all _ _ _ _) ?_)
              refine bodyPost_ret (res_ct Try.results19 _ _ g 31 #[.bool sb, .slice a3 n3 c3] (0, 0) _ (.int .i64 0) (by rfl) (by rfl) (setRow_heap _ _ _ _ 31 (0, 0) RY.out) Try.underlying31 rfl info32) rfl ⟨?_, setRow_below LY.out (Nat.le_of_eq HG.out)⟩
              exact ⟨_, m, 0, rfl, am_row AY.out RY.out, .inl ⟨HMA.out, YES.out, rfl⟩⟩
            · have NO := hid (show ∀ m', Amt m' → ¬ IsText m' (nums s) from fun m' ha ht => by
                have h := HBL.out m' ht
                rw [h] at ht
                have := isText_unique m _ _ ht HXS.out
                apply hTs
                rw [← HTT.out, ← this]
                exact strOfNums_nums s)
              have ne := str_ne T s hTs
              clear hTs
              go_wp2_with (refine wpList_store_row (by rfl) 31 (.tmp 2) (.tmp 60) (by rfl) g #[.bool false, .slice none 0 0] (by rfl) (by rfl) 31 _ RY.out (am_info _ _) (am_size _ _ _ _) (am_all _ _ _ _) ?_)
              refine bodyPost_ret (res_ct Try.results19 _ _ g 31 #[.bool false, .slice none 0 0] (0, 0) _ (.int .i64 3) (by rfl) (by rfl) (setRow_heap _ _ _ _ 31 (0, 0) RY.out) Try.underlying31 rfl info32) rfl ⟨?_, setRow_below LY.out (Nat.le_of_eq HG.out)⟩
              exact ⟨_, 0, 3, rfl, am_zero _, .inr ⟨NO.out, rfl, rfl⟩⟩
        · have CB := hid (fun U (h : Bn U (.slice a n c) x) => (show Calls Try.prog 41 #[.bool bl, .slice a n c] U fun e w' => e = .returned (.tuple #[.agg #[.bool false, .slice none 0 0], .int .i64 10]) ∧ Below U.heap.size U w' from (CA.out U h).mono (fun e w' ⟨h1, h2⟩ => ⟨by
            rcases h1 with ⟨h9, _⟩ | ⟨_, e1⟩
            · exact absurd h9 hc
            · exact e1, h2⟩)))
          have NO := hid (show ∀ m', Amt m' → ¬ IsText m' (nums s) from fun m' ha ht => by
            have h := HAB.out m' ht
            obtain ⟨a1, a2⟩ := ha
            rw [h] at hc
            unfold absI at hc
            split at hc <;> omega)
          clear CA hc HBL HAB
          rcases HFST.out with ⟨q0, rfl⟩ | ⟨h9, q0, q1⟩
          all_goals
            go_upto_region 11 with (go_at_call 41; with_reducible refine (CB.out _ BN.out).mono ?_; rintro e w3 ⟨rfl, h2⟩; have R3 := hid (row_on (row_on RW.out h2) (ball w3 (.cells #[.bool false, .slice none 0 0] 31))); have L3 := hid (btr (btr BW.out h2) (ball w3 (.cells #[.bool false, .slice none 0 0] 31))); clear h2)
            go_wp2_with (refine wpList_store_row (by rfl) 31 (.tmp 2) (.tmp 60) (by rfl) g #[.bool false, .slice none 0 0] (by rfl) (by rfl) 31 _ R3.out (am_info _ _) (am_size _ _ _ _) (am_all _ _ _ _) ?_)
            refine bodyPost_ret (res_ct Try.results19 _ _ g 31 #[.bool false, .slice none 0 0] (0, 0) _ (.int .i64 3) (by rfl) (by rfl) (setRow_heap _ _ _ _ 31 (0, 0) R3.out) Try.underlying31 rfl info32) rfl ⟨?_, setRow_below L3.out (Nat.le_of_eq HG.out)⟩
            exact ⟨_, 0, 3, rfl, am_zero _, .inr ⟨NO.out, rfl, rfl⟩⟩
end Go.Proofs.Ythikjpccmplbiaa.Dm
