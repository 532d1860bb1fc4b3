/-
  Bytes.
-/
import Derived.Test.YtacdjioieclggaaDoorYc
namespace Go.Proofs.YtacdjioieclggaaDoor.Msg
open Go.RowKit Go.Maps Go.Deep Go.Lib
set_option linter.unusedVariables false
set_option linter.unusedSimpArgs false
theorem below_row {B : Nat} {a w : World} (h : Below B a w) {g : Nat} (hg : B ≤ g) (F : Array Value) : Below B a (w.setRow g F) := below_setRow h hg F
set_option maxHeartbeats 8000000 in
set_option maxRecDepth 100000 in
theorem bytes_walk (x : Inp) (hx : x.Ok) (w : World) (hM : LayM w) (hW : Wi.Laid w) : Calls Tryd.prog 6 #[.agg x.v] w fun e w' => e = .returned (.bool true) ∧ Below w.heap.size w w' := by
  have HM := hid hM
  have HW := hid hW
  have LV := hid (fun w hM => lives_any w hM)
  have PK := hid (fun w => pack_any x hx w)
  have BX := hid (frame_back x hx)
  obtain ⟨a0, a1, a2, a3, a4, a5, a6, hA⟩ := list7 (pw_len x)
  have wa := pw_wd x
  obtain ⟨ka, kb⟩ := pk_rg x
  have hzz : x.e ≠ 0 → x.pk = 0 ∧ x.pw = [0, 0, 0, 0, 0, 0, 0] := fun h => ⟨by unfold Inp.pk; rw [if_neg h], by unfold Inp.pw; rw [if_neg h]; rfl⟩
  have HZZ := hid hzz
  rw [hA] at PK BX wa HZZ
  obtain ⟨K, hK⟩ : ∃ z, x.pk = z := ⟨_, rfl⟩
  rw [hK] at PK BX ka kb HZZ
  have UP := hid (fun w => unpack_any K a0 a1 a2 a3 a4 a5 a6 ka kb wa w)
  obtain ⟨E, hE⟩ : ∃ z, x.e = z := ⟨_, rfl⟩
  rw [hE] at PK BX HZZ
  have q1 := eqI_yes x.ki x.co x.id x.tg x.me x.si x.ty x.pr x.qt x.pe x.en x.ki x.co x.id x.tg x.me x.si x.ty x.pr x.qt x.pe x.en rfl
  unfold iV at q1
  have RX0 := hid (heap_alloc_new w (.cells x.v 27))
  have HB0 := hid (ball w (.cells x.v 27))
  have w0 := wa a0 (by simp)
  have w1 := wa a1 (by simp)
  have w2 := wa a2 (by simp)
  have w3 := wa a3 (by simp)
  have w4 := wa a4 (by simp)
  have w5 := wa a5 (by simp)
  have w6 := wa a6 (by simp)
  clear hA hK hE hM hx hzz hW wa
  unfold Wd at w0 w1 w2 w3 w4 w5 w6
  obtain ⟨Kn, rfl⟩ : ∃ n : Nat, K = (n : Int) := ⟨K.toNat, by omega⟩
  obtain ⟨a0n, rfl⟩ : ∃ n : Nat, a0 = (n : Int) := ⟨a0.toNat, by omega⟩
  obtain ⟨a1n, rfl⟩ : ∃ n : Nat, a1 = (n : Int) := ⟨a1.toNat, by omega⟩
  obtain ⟨a2n, rfl⟩ : ∃ n : Nat, a2 = (n : Int) := ⟨a2.toNat, by omega⟩
  obtain ⟨a3n, rfl⟩ : ∃ n : Nat, a3 = (n : Int) := ⟨a3.toNat, by omega⟩
  obtain ⟨a4n, rfl⟩ : ∃ n : Nat, a4 = (n : Int) := ⟨a4.toNat, by omega⟩
  obtain ⟨a5n, rfl⟩ : ∃ n : Nat, a5 = (n : Int) := ⟨a5.toNat, by omega⟩
  obtain ⟨a6n, rfl⟩ : ∃ n : Nat, a6 = (n : Int) := ⟨a6.toNat, by omega⟩
  have hfa : frV (Kn : Int) [(a0n : Int), (a1n : Int), (a2n : Int), (a3n : Int), (a4n : Int), (a5n : Int), (a6n : Int)] = #[.int .u8 (Kn : Int), .int .u64 (a0n : Int), .int .u64 (a1n : Int), .int .u64 (a2n : Int), .int .u64 (a3n : Int), .int .u64 (a4n : Int), .int .u64 (a5n : Int), .int .u64 (a6n : Int)] := rfl
  have hwn : ∀ z ∈ [a0n, a1n, a2n, a3n, a4n, a5n, a6n], z < 18446744073709551616 := by
    intro z hz
    simp only [List.mem_cons, List.not_mem_nil, or_false] at hz
    rcases hz with rfl | rfl | rfl | rfl | rfl | rfl | rfl <;> omega
  have CP := hid (fun (w : World) (hL : Wi.Laid w) => Wi.pack_any Kn a0n a1n a2n a3n a4n a5n a6n w hL (by omega) (by omega) (by omega) (by omega) (by omega) (by omega) (by omega) (by omega))
  have UN := hid (fun (b : Nat) (w : World) hB hL => Wi.unpack_frame Kn a0n a1n a2n a3n a4n a5n a6n b 0 64 w (by omega) hwn hB hL)
  have hfl : (Wi.bv (Wi.frame Kn [a0n, a1n, a2n, a3n, a4n, a5n, a6n])).length = 64 := by rw [Wi.bv_len]; exact Wi.frame_len _ _ rfl
  have hone := Wi.bv_one (Wi.frame Kn [a0n, a1n, a2n, a3n, a4n, a5n, a6n])
  unfold Wi.fv at CP UN
  rw [hfa] at PK UP
  unfold Inp.v iV at *
  obtain ⟨F, hF⟩ : ∃ F, (Wi.bv (Wi.frame Kn [a0n, a1n, a2n, a3n, a4n, a5n, a6n])).toArray = F := ⟨_, rfl⟩
  have F64 : F.size = 64 := by rw [← hF]; simpa using hfl
  have i64 := hid (show (Tryd.prog.info? 53).map (·.size) = some F.size by rw [F64]; exact Wi.info32)
  have F1 := hid (show F.all (·.oneCell') = true by rw [← hF]; exact all_oneCell_toArray hone)
  have FZ := hid (show (Wi.zs 64).toArray.size = F.size by rw [F64]; simp [Wi.zs])
  have HF := hid hF
  rw [hF] at CP
  clear hfa hwn hfl hone hF F64 w0 w1 w2 w3 w4 w5 w6 ka kb
  go_enter Tryd.func6, Tryd.ntmps6
  go_wp2_with (first | (go_at_call 13; refine (LV.out _ (HM.out.on HB0.out)).mono ?_; rintro e w1 ⟨rfl, hb⟩; have RX_1 := hid (row_on RX0.out hb); have HB_1 := hid (btr HB0.out hb); clear hb; refine Hid.out ?_))
  clear RX0 HB0
  obtain ⟨z1_0, z1_1, z1_2, z1_3, z1_4, z1_5, z1_6, z1_7, z1_8, z1_9, z1_10⟩ := cells_I RX_1.out
  refine hid ?_
  go_wp2_with (first | (go_at_call 14; refine (PK.out _).mono ?_; rintro e w2 ⟨rfl, hb⟩; have RX_2 := hid (row_on RX_1.out hb); have HB_2 := hid (btr HB_1.out hb); clear hb; refine Hid.out ?_))
  clear RX_1 HB_1
  clear z1_0 z1_1 z1_2 z1_3 z1_4 z1_5 z1_6 z1_7 z1_8 z1_9 z1_10
  have RX_a1 := hid (row_on RX_2.out (ball w2 (.cells (#[.int .u8 (Kn : Int), .int .u64 (a0n : Int), .int .u64 (a1n : Int), .int .u64 (a2n : Int), .int .u64 (a3n : Int), .int .u64 (a4n : Int), .int .u64 (a5n : Int), .int .u64 (a6n : Int)]) 40)))
  have RF_a1 := hid (heap_alloc_new w2 (.cells (#[.int .u8 (Kn : Int), .int .u64 (a0n : Int), .int .u64 (a1n : Int), .int .u64 (a2n : Int), .int .u64 (a3n : Int), .int .u64 (a4n : Int), .int .u64 (a5n : Int), .int .u64 (a6n : Int)]) 40))
  have HB_a1 := hid (btr HB_2.out (ball w2 (.cells (#[.int .u8 (Kn : Int), .int .u64 (a0n : Int), .int .u64 (a1n : Int), .int .u64 (a2n : Int), .int .u64 (a3n : Int), .int .u64 (a4n : Int), .int .u64 (a5n : Int), .int .u64 (a6n : Int)]) 40)))
  clear RX_2 HB_2
  clear LV PK
  obtain ⟨z2_0, z2_1, z2_2, z2_3, z2_4, z2_5, z2_6, z2_7⟩ := cells_F (k := (Kn : Int)) (a0 := (a0n : Int)) (a1 := (a1n : Int)) (a2 := (a2n : Int)) (a3 := (a3n : Int)) (a4 := (a4n : Int)) (a5 := (a5n : Int)) (a6 := (a6n : Int)) RF_a1.out
  by_cases h0 : E = 0
  · subst h0
    rw [(BX.out rfl).1, (BX.out rfl).2] at UP
    clear BX HZZ
    refine hid ?_
    go_wp2_with (first | (go_at_call 20; refine (CP.out _ (Wi.laid_to HW.out HB_a1.out)).mono ?_; rintro e w3 ⟨rfl, hb⟩; have RX_3 := hid (row_on RX_a1.out hb); have RF_3 := hid (row_on RF_a1.out hb); have HB_3 := hid (btr HB_a1.out hb); clear hb; refine Hid.out ?_))
    clear RX_a1 RF_a1 HB_a1
    clear z2_0 z2_1 z2_2 z2_3 z2_4 z2_5 z2_6 z2_7
    have HR1 := hid (show ((w3.alloc (.cells (Wi.zs 64).toArray 53)).setRow w3.heap.size F).heap[w3.heap.size]? = some (.cells F 53 (0, 0)) from setRow_heap _ _ _ _ 53 (0, 0) (heap_alloc_new _ _))
    have HBA := hid (show Below w3.heap.size w3 ((w3.alloc (.cells (Wi.zs 64).toArray 53)).setRow w3.heap.size F) from below_row (ball w3 _) (Nat.le_refl _) _)
    obtain ⟨W1, hW1⟩ : ∃ W, (w3.alloc (.cells (Wi.zs 64).toArray 53)).setRow w3.heap.size F = W := ⟨_, rfl⟩
    rw [hW1] at HR1 HBA
    have RX4 := hid (row_on RX_3.out HBA.out)
    have HB4 := hid (btr HB_3.out HBA.out)
    have C1 := hid (UN.out w3.heap.size W1 (Wi.bs_row W1 _ 53 _ [] (by rw [List.append_nil, HF.out]; exact HR1.out)) (Wi.laid_to HW.out HB4.out))
    rw [← hW1] at C1
    refine hid ?_
    go_wp2_with (refine wpList_store_row (by rfl) 53 (.tmp 5) (.tmp 23) (by rfl) w3.heap.size F (by rfl) (by rfl) 53 (Wi.zs 64).toArray (heap_alloc_new _ _) i64.out FZ.out F1.out ?_)
    refine C1.out.mono ?_
    rw [hW1]
    clear C1 hW1
    rintro e w4 ⟨rfl, hb⟩
    have RX_4 := hid (row_on RX4.out hb)
    have HB_4 := hid (btr HB4.out hb)
    clear hb RX4 HB4 HR1 HBA
    have RX_a2 := hid (row_on RX_4.out (ball w4 (.cells (#[.int .u8 (Kn : Int), .int .u64 (a0n : Int), .int .u64 (a1n : Int), .int .u64 (a2n : Int), .int .u64 (a3n : Int), .int .u64 (a4n : Int), .int .u64 (a5n : Int), .int .u64 (a6n : Int)]) 40)))
    have RG_a2 := hid (heap_alloc_new w4 (.cells (#[.int .u8 (Kn : Int), .int .u64 (a0n : Int), .int .u64 (a1n : Int), .int .u64 (a2n : Int), .int .u64 (a3n : Int), .int .u64 (a4n : Int), .int .u64 (a5n : Int), .int .u64 (a6n : Int)]) 40))
    have HB_a2 := hid (btr HB_4.out (ball w4 (.cells (#[.int .u8 (Kn : Int), .int .u64 (a0n : Int), .int .u64 (a1n : Int), .int .u64 (a2n : Int), .int .u64 (a3n : Int), .int .u64 (a4n : Int), .int .u64 (a5n : Int), .int .u64 (a6n : Int)]) 40)))
    clear RX_4 HB_4
    obtain ⟨z3_0, z3_1, z3_2, z3_3, z3_4, z3_5, z3_6, z3_7⟩ := cells_F (k := (Kn : Int)) (a0 := (a0n : Int)) (a1 := (a1n : Int)) (a2 := (a2n : Int)) (a3 := (a3n : Int)) (a4 := (a4n : Int)) (a5 := (a5n : Int)) (a6 := (a6n : Int)) RG_a2.out
    go_wp2_with (first | (go_at_call 16; refine (UP.out _).mono ?_; rintro e w5 ⟨rfl, hb⟩; have RX_5 := hid (row_on RX_a2.out hb); have HB_5 := hid (btr HB_a2.out hb); clear hb; refine Hid.out ?_))
    clear z3_0 z3_1 z3_2 z3_3 z3_4 z3_5 z3_6 z3_7
    have RX_a3 := hid (row_on RX_5.out (ball w5 (.cells (#[.int .i64 x.ki, .int .i64 x.co, .int .u64 x.id, .int .u64 x.tg, .int .u32 x.me, .int .i64 x.si, .int .i64 x.ty, .int .i64 x.pr, .int .u64 x.qt, .int .u64 x.pe, .int .i64 x.en]) 27)))
    have RH_a3 := hid (heap_alloc_new w5 (.cells (#[.int .i64 x.ki, .int .i64 x.co, .int .u64 x.id, .int .u64 x.tg, .int .u32 x.me, .int .i64 x.si, .int .i64 x.ty, .int .i64 x.pr, .int .u64 x.qt, .int .u64 x.pe, .int .i64 x.en]) 27))
    have HB_a3 := hid (btr HB_5.out (ball w5 (.cells (#[.int .i64 x.ki, .int .i64 x.co, .int .u64 x.id, .int .u64 x.tg, .int .u32 x.me, .int .i64 x.si, .int .i64 x.ty, .int .i64 x.pr, .int .u64 x.qt, .int .u64 x.pe, .int .i64 x.en]) 27)))
    clear RX_5 HB_5
    obtain ⟨z4_0, z4_1, z4_2, z4_3, z4_4, z4_5, z4_6, z4_7, z4_8, z4_9, z4_10⟩ := cells_I RH_a3.out
    obtain ⟨z5_0, z5_1, z5_2, z5_3, z5_4, z5_5, z5_6, z5_7, z5_8, z5_9, z5_10⟩ := cells_I RX_a3.out
    refine hid ?_
    go_wp2
    go_ret
    exact ⟨by simp, HB_a3.out⟩
  · have hE : (E != 0) = true := by simpa using h0
    obtain ⟨z0, z1⟩ := HZZ.out h0
    simp only [List.cons.injEq, and_true] at z1
    obtain ⟨y0, y1, y2, y3, y4, y5, y6⟩ := z1
    have q2 := eqFr_same (Kn : Int) (a0n : Int) (a1n : Int) (a2n : Int) (a3n : Int) (a4n : Int) (a5n : Int) (a6n : Int)
    rw [show ((Kn : Int)) = 0 from z0, show ((a0n : Int)) = 0 from y0, show ((a1n : Int)) = 0 from y1, show ((a2n : Int)) = 0 from y2, show ((a3n : Int)) = 0 from y3, show ((a4n : Int)) = 0 from y4, show ((a5n : Int)) = 0 from y5, show ((a6n : Int)) = 0 from y6] at q2 ⊢
    rw [z0] at z2_0
    rw [y0] at z2_1
    rw [y1] at z2_2
    rw [y2] at z2_3
    rw [y3] at z2_4
    rw [y4] at z2_5
    rw [y5] at z2_6
    rw [y6] at z2_7
    rw [z0, y0, y1, y2, y3, y4, y5, y6] at HB_a1
    clear BX HZZ h0
    refine hid ?_
    go_wp2
    go_ret
    exact ⟨by simp, HB_a1.out⟩
end Go.Proofs.YtacdjioieclggaaDoor.Msg
namespace Go.Proofs.YtacdjioieclggaaDoor
open Go.ChangeShapes Go.WideShapes Go.ChangeAt Go.RowKit Go.Joins
set_option linter.unusedVariables false
theorem gTab : Tryd.prog.globalNamed "bourse/wire.sumSteps" = some 0 := by kernel_rfl
theorem gTabType : (Tryd.prog.globals[0]?).map (·.type) = some 127 := by kernel_rfl
theorem cells127 : Tryd.prog.cellsOf 127 = 16 := by kernel_rfl
theorem lay_of6 {W : World} (h : laidMetH Tryd.prog [("math/bits.deBruijn32tab", Rows.laid_math_bits_deBruijn32tab), ("math/bits.deBruijn64tab", Rows.laid_math_bits_deBruijn64tab), ("internal/strconv.uint64pow10", Rows.laid_internal_strconv_uint64pow10), ("strconv.ErrRange", Rows.laid_strconv_ErrRange), ("strconv.ErrSyntax", Rows.laid_strconv_ErrSyntax), ("bourse/wire.sumSteps", Rows.laid_bourse_wire_sumSteps)] W) : LayE W := by
  have h0 : laidMet Tryd.prog [("math/bits.deBruijn32tab", Rows.laid_math_bits_deBruijn32tab), ("math/bits.deBruijn64tab", Rows.laid_math_bits_deBruijn64tab), ("internal/strconv.uint64pow10", Rows.laid_internal_strconv_uint64pow10), ("strconv.ErrRange", Rows.laid_strconv_ErrRange), ("strconv.ErrSyntax", Rows.laid_strconv_ErrSyntax), ("bourse/wire.sumSteps", Rows.laid_bourse_wire_sumSteps)] W := h
  have h1 := h0.tail.tail
  refine ⟨⟨?_⟩, ?_, ?_⟩
  · rw [← powList]
    exact Lib.tabIs_of_head g0 g0Type Tryd.underlying156 Tryd.underlying22 cells22 cells94 h1
  · obtain ⟨a, s, hv, _⟩ := laid_sentinel h1.tail.tail g1 g1Type Tryd.underlying146 row113 Tryd.underlying175 Tryd.underlying177 rfl rfl Tryd.underlying9 cells115 cells9
    exact ⟨_, _, hv⟩
  · obtain ⟨a, s, hv, _⟩ := laid_sentinel h1.tail g2 g2Type Tryd.underlying146 row113 Tryd.underlying175 Tryd.underlying177 rfl rfl Tryd.underlying9 cells115 cells9
    exact ⟨_, _, hv⟩
theorem laid_of6 {W : World} (h : laidMetH Tryd.prog [("math/bits.deBruijn32tab", Rows.laid_math_bits_deBruijn32tab), ("math/bits.deBruijn64tab", Rows.laid_math_bits_deBruijn64tab), ("internal/strconv.uint64pow10", Rows.laid_internal_strconv_uint64pow10), ("strconv.ErrRange", Rows.laid_strconv_ErrRange), ("strconv.ErrSyntax", Rows.laid_strconv_ErrSyntax), ("bourse/wire.sumSteps", Rows.laid_bourse_wire_sumSteps)] W) : Wi.Laid W := by
  have h0 : laidMet Tryd.prog [("math/bits.deBruijn32tab", Rows.laid_math_bits_deBruijn32tab), ("math/bits.deBruijn64tab", Rows.laid_math_bits_deBruijn64tab), ("internal/strconv.uint64pow10", Rows.laid_internal_strconv_uint64pow10), ("strconv.ErrRange", Rows.laid_strconv_ErrRange), ("strconv.ErrSyntax", Rows.laid_strconv_ErrSyntax), ("bourse/wire.sumSteps", Rows.laid_bourse_wire_sumSteps)] W := h
  have ht : Lib.TabIs Tryd.prog W "bourse/wire.sumSteps" .u32 [0, 498536548, 997073096, 651767980, 1994146192, 1802195444, 1303535960, 1342533948, 3988292384, 4027552580, 3604390888, 3412177804, 2607071920, 2262029012, 2685067896, 3183342108] :=
    Lib.tabIs_of_head (rest := []) gTab gTabType Tryd.underlying127 Tryd.underlying23 Msg.cells23 cells127 h0.tail.tail.tail.tail.tail
  intro k hk
  have hc := ht.cell gTab k (by simpa using hk)
  rw [hc]
  have : k = 0 ∨ k = 1 ∨ k = 2 ∨ k = 3 ∨ k = 4 ∨ k = 5 ∨ k = 6 ∨ k = 7 ∨ k = 8 ∨ k = 9 ∨ k = 10 ∨ k = 11 ∨ k = 12 ∨ k = 13 ∨ k = 14 ∨ k = 15 := by omega
  rcases this with rfl | rfl | rfl | rfl | rfl | rfl | rfl | rfl | rfl | rfl | rfl | rfl | rfl | rfl | rfl | rfl <;> rfl
end Go.Proofs.YtacdjioieclggaaDoor
namespace Go.Proofs.YtacdjioieclggaaDoor.messageBytes
open Go.ChangeShapes Go.WideShapes Go.ChangeAt Go.RowKit Go.Joins
set_option linter.unusedVariables false
set_option maxRecDepth 100000 in
theorem contract (H : Type) (enc : TypeId × Value → H) (W : World) (base : Nat) (args : Array Value) (ds gs : List (DataW H)) (before : List MemPlace)
    (hval : ∀ (j : Nat) t v, Tryd.f6.params[j]? = some t → args[j]? = some v → Value.okWide Tryd.prog W .any base t v)
    (hW : DataW.Whole enc Tryd.prog Tryd.f6.params.toList Rows.messageBytesSpec.vars false W args.toList ds gs before) (hL : laidMetH Tryd.prog Rows.messageBytesRow.laid W) (hsh : W.ShapedOpen Tryd.prog) (hZ : (DataW.weightsEach Tryd.prog (Tryd.f6.params.toList ++ (OpenSpec.ofChange Rows.messageBytesSpec).bare.plain.varTypes Tryd.prog) (ds ++ gs)).all (· ≤ reachBytes) = true) :
    Calls Tryd.prog 6 args W fun e W' => ∃ v, e = .returned v ∧ Rows.messageBytesSpec.post enc Tryd.prog Tryd.f6 false true false false W args v W' := by
  have hW' := hW
  obtain ⟨p, q, hA0, hV, rfl, hfz, hnd⟩ := hW
  have hA : DataW.TrodAll enc Tryd.prog W 0 (fun _ => true) true Tryd.f6.params.toList args.toList ds p := hA0
  rw [Tryd.params6] at hA hval
  obtain ⟨v0, vs0, d0, ds0, p0, q0, hargs, rfl, rfl, h0, r0⟩ := trodAll_cons hA
  obtain ⟨rfl, rfl, rfl⟩ := trodAll_nil r0
  obtain rfl : args = #[v0] := by cases args; simp_all
  obtain ⟨rfl, rfl⟩ := trodVars_none hV
  have k0 := h0
  have lt0 : ∀ x ∈ p0, x.block < W.heap.size := by obtain ⟨m, hm⟩ := k0; exact DataW.trod_lt m _ _ _ hm
  obtain ⟨x, rfl, hx, _⟩ := Msg.open_inp (hval 0 27 v0 rfl rfl) h0
  clear hA0
  refine (Msg.bytes_walk x hx W ⟨lay_of6 hL, max_cell W hsh⟩ (laid_of6 hL)).mono fun e W' ⟨he, bel⟩ => ?_
  subst he
  exact ⟨_, rfl, _, _, _, [], _, [], hW', trodAll_mk1 (shut_bool Tryd.underlying4 _), (trodAll_cons_mk (Below.trod laidOut (by kernel_rfl) (of_decide_eq_true (by kernel_rfl)) k0 bel lt0) trodAll_mk0), rfl, bel.frame _, fun h => by cases h⟩

theorem laid_met (os : Os) : laidMet Tryd.prog Rows.messageBytesRow.laid ((laidWorld os).forCall (fun _ _ => 0) ⟨#[], #[.agg #[.int .i64 0, .int .i64 0, .int .u64 0, .int .u64 0, .int .u32 0, .int .i64 0, .int .i64 0, .int .i64 0, .int .u64 0, .int .u64 0, .int .i64 0]], []⟩).memory :=
  laidMet_of_run' 8 (by kernel_rfl) (by kernel_rfl)
theorem reads (os : Os) {H : Type} (enc : TypeId × Value → H) : ∃ places, DataW.whole enc Tryd.prog ((laidWorld os).forCall (fun _ _ => 0) ⟨#[], #[.agg #[.int .i64 0, .int .i64 0, .int .u64 0, .int .u64 0, .int .u32 0, .int .i64 0, .int .i64 0, .int .i64 0, .int .u64 0, .int .u64 0, .int .i64 0]], []⟩).memory Tryd.f6.params.toList Rows.messageBytesSpec.vars false (#[.agg #[.int .i64 0, .int .i64 0, .int .u64 0, .int .u64 0, .int .u32 0, .int .i64 0, .int .i64 0, .int .i64 0, .int .u64 0, .int .u64 0, .int .i64 0]] : Array Value).toList 8 = some ([.agg [.lit (.int .i64 0), .agg [.lit (.int .i64 0), .lit (.int .u64 0), .lit (.int .u64 0), .lit (.int .u32 0), .lit (.int .i64 0), .lit (.int .i64 0), .lit (.int .i64 0), .lit (.int .u64 0), .lit (.int .u64 0)], .lit (.int .i64 0)]], [], places) :=
  ⟨[], by kernel_rfl⟩

set_option maxRecDepth 100000 in
theorem lifted (os : Os) (started : os.Started) (H : Type) (enc : TypeId × Value → H) (F : Stop.Interp) :
    ReturnsInHanded {} Tryd.checked os 6 .any ((OpenSpec.ofChange Rows.messageBytesSpec).preRow enc Tryd.prog Tryd.f6 Rows.messageBytesRow.domain false Rows.messageBytesRow.laid) (((OpenSpec.ofChange Rows.messageBytesSpec).at F).post enc Tryd.prog Tryd.f6 false true false false) := by
  obtain ⟨places, hx⟩ := reads os enc
  refine returnsInHanded_of_row (C := Tryd.checked) (s := OpenSpec.ofChange Rows.messageBytesSpec) own started (by kernel_rfl) Tryd.func6
    (witness_row_at (enc := enc) (C := Tryd.checked) false (laidWorld os) #[.agg #[.int .i64 0, .int .i64 0, .int .u64 0, .int .u64 0, .int .u32 0, .int .i64 0, .int .i64 0, .int .i64 0, .int .u64 0, .int .u64 0, .int .i64 0]] rfl (by kernel_rfl) (by kernel_rfl) (by kernel_rfl)
      (OpenSpec.preRow_of_cond 8 hx (by kernel_rfl) (fun k hk => by cases hk) (by kernel_rfl) (laid_met os))) ?_
  intro W base args ds gs before hval hW _ _ hZ hL hsh _
  exact contract H enc W base args ds gs before hval hW hL hsh hZ

theorem said : Rows.MessageBytesSaid :=
  OpenClaim.holds_of_cond 6 Tryd.f6 rfl rfl rfl rfl rfl rfl rfl ⟨rfl, rfl, rfl, rfl, rfl⟩ rfl rfl rfl rfl rfl (by kernel_rfl) Tryd.func6 (by kernel_rfl)
    (of_decide_eq_true (by kernel_rfl)) (by unfold Func.isWrapper; first | (rw [if_pos (by decide +kernel)]; kernel_rfl) | (rw [if_neg (by decide +kernel)]; exact ⟨rfl, rfl⟩))
    (fun os started H enc _ F => by rw [OpenClaim.pre_eq_preRow]; exact lifted os started H enc F)

theorem plain (f : FuncId) (fn : Func) (hf : Tryd.pinned.checked.prog.funcNamed "bourse/bourselaw04.MessageBytes" = some f) (hfn : Tryd.pinned.checked.prog.funcs[f]? = some fn) :
    true = Tryd.pinned.checked.prog.looks [] ∧ ∀ (j : Nat) t, fn.params[j]? = some t → Tryd.pinned.checked.prog.wantsStandIn t = false := by
  obtain rfl : f = 6 := Option.some.inj ((show Tryd.prog.funcNamed "bourse/bourselaw04.MessageBytes" = some 6 by kernel_rfl).symm.trans hf) |>.symm
  obtain rfl : fn = Tryd.f6 := (Option.some.inj (Tryd.func6.symm.trans hfn)).symm
  refine ⟨by kernel_rfl, fun j t ht => ?_⟩
  rw [Tryd.params6] at ht
  have hm : t = 27 := by simpa using Array.mem_of_getElem? ht
  rcases hm with rfl
  · exact (show Tryd.prog.wantsStandIn 27 = false by kernel_rfl)

theorem card : Rows.MessageBytesCardSaid :=
  Claim7.holds_tied_plain_at .later [] _ _ _ _ said (fun _ h => by cases h) (by kernel_rfl) (fun _ h => by cases h) messageBytes_row_tie rfl ⟨rfl, rfl⟩ (by kernel_rfl) rfl plain (by kernel_rfl)
end Go.Proofs.YtacdjioieclggaaDoor.messageBytes
namespace Go.Proofs.YtacdjioieclggaaDoor
theorem messageBytes_holds : Rows.MessageBytesCardSaid := messageBytes.card
#print axioms messageBytes_holds
end Go.Proofs.YtacdjioieclggaaDoor
