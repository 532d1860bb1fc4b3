/-
  MoneyAll, walked.
-/
import Derived.Test.YthikjpccmplbiaaMaJ
namespace Go.Proofs.Ythikjpccmplbiaa.Dm
open Go.RowKit Go.Deep BigM MonM TexM ParM Go.Proofs.Ythikjpccmplbiaa
set_option linter.unusedVariables false
set_option linter.unusedSimpArgs false
set_option maxHeartbeats 20000000
set_option maxRecDepth 100000
attribute [local go_sem ↓] Go.wp_at_zero Go.wp_at_succ
theorem eq_word (d : Nat) (a b : Int) (w : World) : (Op.equalIn (d + 1) 24 (.int .u64 a) (.int .u64 b)).run Try.prog w = .ok (a == b) w := run_equalIn_int w d 24 .u64 .u64 a b Try.underlying24
theorem eq2 (x y : Int) (w : World) : (Op.equalIn 10000 36 (.agg #[.int .u64 x, .int .u64 y]) (.agg #[.int .u64 x, .int .u64 y])).run Try.prog w = .ok true w := by
  have a3' := Try.isAgg24
  have z3 := Try.sizeOf24
  rw [show (10000 : Nat) = 9998 + 2 from rfl, Op.equalIn]
  simp only [Sem.run_bind, run_underlying Try.underlying36, Result.andThen_ok]
  simp only [Std.Legacy.Range.forIn_eq_forIn_range', Std.Legacy.Range.size, Nat.sub_zero, Nat.add_sub_cancel, Nat.div_one, List.range'_succ, List.range'_zero, List.forIn_cons, List.forIn_nil]
  simp [part, z3, a3', Sem.run_bind, eq_word]
theorem text_m5 : IsText (-5) (nums ⟨#[45, 48, 46, 48, 53]⟩) := ⟨3, ⟨by decide, by decide, .inl rfl⟩, by decide⟩
theorem text_0 : IsText 0 (nums ⟨#[48, 46, 48, 48]⟩) := ⟨3, ⟨by decide, by decide, .inl rfl⟩, by decide⟩
theorem hi_m5 : hiW (-5) = 18446744073709551615 := by unfold hiW; omega
theorem lo_m5 : loW (-5) = 18446744073709551611 := by unfold loW; omega
theorem amt_m5 : Amt (-5) := by unfold Amt; omega
theorem amt_0 : Amt 0 := by unfold Amt; omega
theorem say_m5 (U : World) : Calls Try.prog 6 #[.agg #[.int .u64 18446744073709551615, .int .u64 18446744073709551611]] U fun e w' => e = .returned (.string ⟨#[45, 48, 46, 48, 53]⟩) ∧ Below U.heap.size U w' := by
  have t := text_walk (-5) U amt_m5
  unfold mv at t
  rw [hi_m5, lo_m5] at t
  refine t.mono ?_
  rintro e w' ⟨⟨xs, h1, h2⟩, h3⟩
  have hx := isText_unique (-5) _ _ text_m5 h1
  rw [← hx, strOfNums_nums] at h2
  exact ⟨h2, h3⟩
theorem cents_m5 (U : World) : Calls Try.prog 14 #[.int .i64 (-5)] U fun e w' => e = .returned (.agg #[.int .u64 18446744073709551615, .int .u64 18446744073709551611]) ∧ Below U.heap.size U w' := by
  have t := cents_any (-5) U (by decide) (by decide)
  unfold mv at t
  rw [hi_m5, lo_m5] at t
  exact t
theorem say_0 (U : World) : Calls Try.prog 6 #[.agg #[.int .u64 0, .int .u64 0]] U fun e w' => e = .returned (.string ⟨#[48, 46, 48, 48]⟩) ∧ Below U.heap.size U w' := by
  have t := text_walk 0 U amt_0
  unfold mv at t
  rw [words_zero.1, words_zero.2] at t
  refine t.mono ?_
  rintro e w' ⟨⟨xs, h1, h2⟩, h3⟩
  have hx := isText_unique 0 _ _ text_0 h1
  rw [← hx, strOfNums_nums] at h2
  exact ⟨h2, h3⟩
def zeros : Array Value := #[.int .u64 0, .int .u64 0, .int .u64 0, .int .u64 0, .int .u64 0, .int .u64 0, .int .u64 0, .int .u64 0, .bool false, .slice none 0 0, .bool false, .slice none 0 0, .bool false, .slice none 0 0, .bool false, .slice none 0 0]
theorem mw_start (W : World) : Mw (W.alloc (.cells zeros 34)) W.heap.size (fun _ => 0) := by
  refine ⟨zeros, World.alloc_heap_new _ _, rfl, fun i hi => ⟨amt_0, ?_, ?_, none, 0, 0, ?_, ?_, bn_nil _⟩⟩
  all_goals (rcases (show i = 0 ∨ i = 1 ∨ i = 2 ∨ i = 3 by omega) with rfl | rfl | rfl | rfl <;> rfl)
theorem all_any (q : Option Addr) (cap : Nat) (l : List OpM) (w : World) (hO : Opz w q l) (hok : ∀ z ∈ l, z.ok) (hm : l.length ≤ maxLen) :
    Calls Try.prog 3 #[.slice q l.length cap] w fun e w' => e = .returned (.bool true) ∧ Below w.heap.size w w' := by
  obtain ⟨n, hn⟩ : ∃ n, l.length = n := ⟨_, rfl⟩
  obtain ⟨W1, hW1⟩ : ∃ W, w.alloc (.cells zeros 34) = W := ⟨_, rfl⟩
  have B1 := hid (show Below w.heap.size w W1 from by rw [← hW1]; exact ball _ _)
  have M1 := hid (show Mw W1 w.heap.size (fun _ => 0) from by rw [← hW1]; exact mw_start w)
  obtain ⟨B, hB⟩ : ∃ B, w.heap.size = B := ⟨_, rfl⟩
  have HO := hid hO
  have HK := hid hok
  have HB := hid hB
  have HN := hid hn
  have HM := hid (show n ≤ maxLen from by rw [← hn]; exact hm)
  rw [hB] at M1
  rw [hn]
  unfold zeros at hW1
  clear hO hok hm hn
  go_enter Try.func3, Try.ntmps3
  go_upto_region 3 with fail
  go_loopw [4] (fun iv wr => ∃ i, i ≤ n ∧ iv = .int .i64 (i : Nat) ∧ Hid (Below w.heap.size w wr) ∧ Hid (∃ m, Mw wr B m)) (fun iv _ => n - (intOf iv).toNat)
  case atStart => exact ⟨0, Nat.zero_le _, rfl, B1, ⟨_, M1.out⟩⟩
  case round =>
    obtain ⟨i, hin, rfl, BW, HW⟩ := hrel
    clear M1 B1
    by_cases hlt : i < n
    · obtain ⟨m, hMw⟩ := HW.out
      have MW := hid hMw
      have hi' : i < l.length := by rw [HN.out]; exact hlt
      obtain ⟨b, off, rfl, hbl, hc⟩ := HO.out i hi'
      have ok := HK.out _ (List.getElem_mem hi')
      generalize l[i] = z at hc ok
      obtain ⟨kd, tt, ta, tb, N, h, l', s, x, y, rd⟩ := z
      have KC := hid (show ∀ U, Below w.heap.size w U → ∀ j, j < 11 → U.cell? ⟨b, off + i * 11 + j, none⟩ = (mrow ⟨kd, tt, ta, tb, N, h, l', s, x, y, rd⟩)[j]? from fun U hU j hj => (hU.cell (p := ⟨b, off + i * 11 + j, none⟩) hbl).trans (hc j hj))
      clear hc
      have c0 : wr.cell? ⟨b, off + i * 11, none⟩ = some (.int .i64 kd) := KC.out wr BW.out 0 (by decide)
      have c1 : wr.cell? ⟨b, off + i * 11 + 1, none⟩ = some (.int .i64 tt) := KC.out wr BW.out 1 (by decide)
      have c2 : wr.cell? ⟨b, off + i * 11 + 2, none⟩ = some (.int .i64 ta) := KC.out wr BW.out 2 (by decide)
      have c3 : wr.cell? ⟨b, off + i * 11 + 3, none⟩ = some (.int .i64 tb) := KC.out wr BW.out 3 (by decide)
      have c4 : wr.cell? ⟨b, off + i * 11 + 4, none⟩ = some (.int .i64 N) := KC.out wr BW.out 4 (by decide)
      have c5 : wr.cell? ⟨b, off + i * 11 + 5, none⟩ = some (.int .u64 h) := KC.out wr BW.out 5 (by decide)
      have c6 : wr.cell? ⟨b, off + i * 11 + 6, none⟩ = some (.int .u64 l') := KC.out wr BW.out 6 (by decide)
      have c7 : wr.cell? ⟨b, off + i * 11 + 7, none⟩ = some (.string s) := KC.out wr BW.out 7 (by decide)
      have c8 : wr.cell? ⟨b, off + i * 11 + 8, none⟩ = some (.int .u32 x) := KC.out wr BW.out 8 (by decide)
      have c9 : wr.cell? ⟨b, off + i * 11 + 9, none⟩ = some (.int .u32 y) := KC.out wr BW.out 9 (by decide)
      have c10 : wr.cell? ⟨b, off + i * 11 + 10, none⟩ = some (.int .i64 rd) := KC.out wr BW.out 10 (by decide)
      have CS := hid (step_any kd tt ta tb N h l' x y rd s wr w w.heap.size B m hMw BW.out (Nat.le_refl _) (Nat.le_of_eq HB.out) ok.1 ok.2.1 ok.2.2.1 ok.2.2.2.1 ok.2.2.2.2.1 ok.2.2.2.2.2)
      have i0 : (0 : Int) ≤ (i : Int) := by omega
      have i1 : (i : Int) < (n : Int) := by omega
      have wi : IntKind.i64.wrap ((i : Int) + 1) = ((i + 1 : Nat) : Int) := by have := HM.out; unfold maxLen at this; rw [IntKind.wrap_i64]; omega
      have HLT := hid hlt
      clear hlt hin hi' hMw ok hbl HW BW MW
      go_upto_region 7 with (go_at_call 4; with_reducible refine CS.out.mono ?_; rintro e w2 ⟨rfl, h1, m2, h2⟩; have B2 := hid h1; have M2 := hid h2; clear h1 h2)
      clear c0 c1 c2 c3 c4 c5 c6 c7 c8 c9 c10 CS
      have c1 : w2.cell? ⟨b, off + i * 11 + 1, none⟩ = some (.int .i64 tt) := KC.out w2 B2.out 1 (by decide)
      have c3 : w2.cell? ⟨b, off + i * 11 + 3, none⟩ = some (.int .i64 tb) := KC.out w2 B2.out 3 (by decide)
      go_big_quiet (exact Calls.quiet_of_same (at_any _ _))
      obtain ⟨V, hV⟩ : ∃ V, w2.drewN nq = V := ⟨_, rfl⟩
      have BV := hid (show Below w.heap.size w V from by rw [← hV]; exact btr B2.out (bdrewN _ _))
      have M3 := hid (show Mw V B m2 from by rw [← hV]; exact M2.out.on (bdrewN _ _))
      rw [hV]
      have lo := atN_lt tt
      have lb := atN_lt tb
      generalize atN tt = o at *
      generalize atN tb = j at *
      clear hV c1 c3 B2 M2 KC
      obtain ⟨HMA, q1, q2, sa, sn, sc, q3, q4, q5⟩ := M3.out.at o lo
      obtain ⟨HMJ, p1, p2, ja, jn, jc, p3, p4, p5⟩ := M3.out.at j lb
      have HMA := hid HMA
      have HMJ := hid HMJ
      have A2 := hid q5
      have J2 := hid p5
      have K0 := hid (show ∀ U, Below V.heap.size V U → U.cell? ⟨B, o * 2, none⟩ = some (.int .u64 (hiW (m2 o))) from fun U h => (h.cell (p := ⟨B, o * 2, none⟩) M3.out.lt).trans q1)
      have K1 := hid (show ∀ U, Below V.heap.size V U → U.cell? ⟨B, o * 2 + 1, none⟩ = some (.int .u64 (loW (m2 o))) from fun U h => (h.cell (p := ⟨B, o * 2 + 1, none⟩) M3.out.lt).trans q2)
      have K2 := hid (show ∀ U, Below V.heap.size V U → U.cell? ⟨B, 8 + o * 2, none⟩ = some (.bool (decide (m2 o < 0))) from fun U h => (h.cell (p := ⟨B, 8 + o * 2, none⟩) M3.out.lt).trans q3)
      have K3 := hid (show ∀ U, Below V.heap.size V U → U.cell? ⟨B, 8 + o * 2 + 1, none⟩ = some (.slice sa sn sc) from fun U h => (h.cell (p := ⟨B, 8 + o * 2 + 1, none⟩) M3.out.lt).trans q4)
      have L0 := hid (show ∀ U, Below V.heap.size V U → U.cell? ⟨B, j * 2, none⟩ = some (.int .u64 (hiW (m2 j))) from fun U h => (h.cell (p := ⟨B, j * 2, none⟩) M3.out.lt).trans p1)
      have L1 := hid (show ∀ U, Below V.heap.size V U → U.cell? ⟨B, j * 2 + 1, none⟩ = some (.int .u64 (loW (m2 j))) from fun U h => (h.cell (p := ⟨B, j * 2 + 1, none⟩) M3.out.lt).trans p2)
      have L2 := hid (show ∀ U, Below V.heap.size V U → U.cell? ⟨B, 8 + j * 2, none⟩ = some (.bool (decide (m2 j < 0))) from fun U h => (h.cell (p := ⟨B, 8 + j * 2, none⟩) M3.out.lt).trans p3)
      have L3 := hid (show ∀ U, Below V.heap.size V U → U.cell? ⟨B, 8 + j * 2 + 1, none⟩ = some (.slice ja jn jc) from fun U h => (h.cell (p := ⟨B, 8 + j * 2 + 1, none⟩) M3.out.lt).trans p4)
      obtain ⟨mo, hmo⟩ : ∃ x, m2 o = x := ⟨_, rfl⟩
      obtain ⟨mj, hmj⟩ : ∃ x, m2 j = x := ⟨_, rfl⟩
      rw [hmo] at K0 K1 K2 A2 HMA
      rw [hmj] at L0 L1 L2 J2 HMJ
      obtain ⟨mh, hmh⟩ : ∃ x, hiW mo = x := ⟨_, rfl⟩
      obtain ⟨ml, hml⟩ : ∃ x, loW mo = x := ⟨_, rfl⟩
      obtain ⟨mb, hmb⟩ : ∃ x, decide (mo < 0) = x := ⟨_, rfl⟩
      obtain ⟨jh, hjh⟩ : ∃ x, hiW mj = x := ⟨_, rfl⟩
      obtain ⟨jl, hjl⟩ : ∃ x, loW mj = x := ⟨_, rfl⟩
      obtain ⟨jb, hjb⟩ : ∃ x, decide (mj < 0) = x := ⟨_, rfl⟩
      rw [hmh] at K0
      rw [hml] at K1
      rw [hmb] at K2 A2
      rw [hjh] at L0
      rw [hjl] at L1
      rw [hjb] at L2 J2
      have HMW := hid (And.intro hmh hml)
      have HJW := hid (And.intro hjh hjl)
      have o0 : (0 : Int) ≤ (o : Int) := by omega
      have o1 : (o : Int) < 4 := by omega
      have j0 : (0 : Int) ≤ (j : Int) := by omega
      have j1 : (j : Int) < 4 := by omega
      clear q1 q2 q3 q4 q5 p1 p2 p3 p4 p5 hmo hmj hmh hml hmb hjh hjl hjb lo lb
      go_upto_region 8 with fail
      refine reg_cut (X := Nat × Nat) (fun a t => ((((((((((((((a.put (some 36) (.pointer (some ⟨B, 0, none⟩))).put (some 37) (.int .i64 o)).put (some 38) (.pointer (some ⟨B, 0, none⟩))).put (some 39) (.pointer (some ⟨B, 0, none⟩))).put (some 40) (.pointer (some ⟨B, o * 2, none⟩))).put (some 41) (.agg #[.int .u64 mh, .int .u64 ml])).put (some 42) (.pointer (some ⟨B, 0, none⟩))).put (some 43) (.int .i64 o)).put (some 44) (.pointer (some ⟨B, 0, none⟩))).put (some 45) (.pointer (some ⟨B, 8, none⟩))).put (some 46) (.pointer (some ⟨B, 8 + o * 2, none⟩))).put (some 47) (.agg #[.bool mb, .slice sa sn sc])).put (some 7) (.pointer (some ⟨t.1, 0, none⟩))).put (some 8) (.pointer (some ⟨t.2, 0, none⟩)))) (fun t V9 => Hid (Below V.heap.size V V9) ∧ Hid (V9.heap[t.1]? = some (.cells #[.int .u64 mh, .int .u64 ml] 26 (0, 0))) ∧ Hid (V9.heap[t.2]? = some (.cells #[.bool mb, .slice sa sn sc] 31 (0, 0)))) ?_ ?_
      · obtain ⟨V1, hV1⟩ : ∃ U, V.drew = U := ⟨_, rfl⟩
        have BV1 := hid (show Below V.heap.size V V1 from by rw [← hV1]; exact bdrew1 _)
        refine wp_region_held_drew (S := (fun U => U.cell? ⟨B, o * 2, none⟩ = some (.int .u64 mh) ∧ U.cell? ⟨B, o * 2 + 1, none⟩ = some (.int .u64 ml) ∧ U.cell? ⟨B, 8 + o * 2, none⟩ = some (.bool mb) ∧ U.cell? ⟨B, 8 + o * 2 + 1, none⟩ = some (.slice sa sn sc))) (by kernel_rfl) ?_ (fun hHeld => ?_)
        · (try dsimp only); rw [hV1]; exact ⟨K0.out _ BV1.out, K1.out _ BV1.out, K2.out _ BV1.out, K3.out _ BV1.out⟩
        rw [hV1] at hHeld ⊢
        clear hV1
        refine' wpAnyH_take (i := 0) (oi := _) (v := _) rfl (by kernel_rfl) (by kernel_rfl) (by kernel_rfl) (fun _ _ _ h => h) (Or.inl ⟨by kernel_rfl, ?_⟩) (by assumption) ?_
        rotate_left
        · (intro w hSw; (try dsimp only at hSw); go_simp; try (with_reducible rfl))
        try simp only [List.getElem_toArray, List.getElem_cons_succ, List.getElem_cons_zero, Act.put, List.setIfInBounds_toArray, List.set_cons_zero, List.set_cons_succ]
        refine' wpAnyH_take (i := 1) (oi := _) (v := _) rfl (by kernel_rfl) (by kernel_rfl) (by kernel_rfl) (fun _ _ _ h => h) (Or.inl ⟨by kernel_rfl, ?_⟩) (by assumption) ?_
        rotate_left
        · (intro w hSw; (try dsimp only at hSw); go_simp; try (with_reducible rfl))
        try simp only [List.getElem_toArray, List.getElem_cons_succ, List.getElem_cons_zero, Act.put, List.setIfInBounds_toArray, List.set_cons_zero, List.set_cons_succ]
        refine' wpAnyH_take (i := 2) (oi := _) (v := _) rfl (by kernel_rfl) (by kernel_rfl) (by kernel_rfl) (fun _ _ _ h => h) (Or.inl ⟨by kernel_rfl, ?_⟩) (by assumption) ?_
        rotate_left
        · (intro w hSw; (try dsimp only at hSw); go_simp; try (with_reducible rfl))
        try simp only [List.getElem_toArray, List.getElem_cons_succ, List.getElem_cons_zero, Act.put, List.setIfInBounds_toArray, List.set_cons_zero, List.set_cons_succ]
        refine' wpAnyH_take (i := 3) (oi := _) (v := _) rfl (by kernel_rfl) (by kernel_rfl) (by kernel_rfl) (fun _ _ _ h => h) (Or.inl ⟨by kernel_rfl, ?_⟩) (by assumption) ?_
        rotate_left
        · (intro w hSw; (try dsimp only at hSw); go_simp; try (with_reducible rfl))
        try simp only [List.getElem_toArray, List.getElem_cons_succ, List.getElem_cons_zero, Act.put, List.setIfInBounds_toArray, List.set_cons_zero, List.set_cons_succ]
        refine' wpAnyH_take (i := 4) (oi := _) (v := _) rfl (by kernel_rfl) (by kernel_rfl) (by kernel_rfl) (fun _ _ _ h => h) (Or.inl ⟨by kernel_rfl, ?_⟩) (by assumption) ?_
        rotate_left
        · (intro w hSw; (try dsimp only at hSw); go_simp; try (with_reducible rfl))
        try simp only [List.getElem_toArray, List.getElem_cons_succ, List.getElem_cons_zero, Act.put, List.setIfInBounds_toArray, List.set_cons_zero, List.set_cons_succ]
        refine' wpAnyH_take (i := 5) (oi := _) (v := _) rfl (by kernel_rfl) (by kernel_rfl) (by kernel_rfl) (fun _ _ _ h => h) (Or.inl ⟨by kernel_rfl, ?_⟩) (by assumption) ?_
        rotate_left
        · (intro w hSw; (try dsimp only at hSw); go_simp; try (with_reducible rfl))
        try simp only [List.getElem_toArray, List.getElem_cons_succ, List.getElem_cons_zero, Act.put, List.setIfInBounds_toArray, List.set_cons_zero, List.set_cons_succ]
        refine' wpAnyH_take (i := 6) (oi := _) (v := _) rfl (by kernel_rfl) (by kernel_rfl) (by kernel_rfl) (fun _ _ _ h => h) (Or.inl ⟨by kernel_rfl, ?_⟩) (by assumption) ?_
        rotate_left
        · (intro w hSw; (try dsimp only at hSw); go_simp; try (with_reducible rfl))
        try simp only [List.getElem_toArray, List.getElem_cons_succ, List.getElem_cons_zero, Act.put, List.setIfInBounds_toArray, List.set_cons_zero, List.set_cons_succ]
        refine' wpAnyH_take (i := 7) (oi := _) (v := _) rfl (by kernel_rfl) (by kernel_rfl) (by kernel_rfl) (fun _ _ _ h => h) (Or.inl ⟨by kernel_rfl, ?_⟩) (by assumption) ?_
        rotate_left
        · (intro w hSw; (try dsimp only at hSw); go_simp; try (with_reducible rfl))
        try simp only [List.getElem_toArray, List.getElem_cons_succ, List.getElem_cons_zero, Act.put, List.setIfInBounds_toArray, List.set_cons_zero, List.set_cons_succ]
        refine' wpAnyH_take (i := 8) (oi := _) (v := _) rfl (by kernel_rfl) (by kernel_rfl) (by kernel_rfl) (fun _ _ _ h => h) (Or.inl ⟨by kernel_rfl, ?_⟩) (by assumption) ?_
        rotate_left
        · (intro w hSw; (try dsimp only at hSw); go_simp; try (with_reducible rfl))
        try simp only [List.getElem_toArray, List.getElem_cons_succ, List.getElem_cons_zero, Act.put, List.setIfInBounds_toArray, List.set_cons_zero, List.set_cons_succ]
        refine' wpAnyH_take (i := 9) (oi := _) (v := _) rfl (by kernel_rfl) (by kernel_rfl) (by kernel_rfl) (fun _ _ _ h => h) (Or.inl ⟨by kernel_rfl, ?_⟩) (by assumption) ?_
        rotate_left
        · (intro w hSw; (try dsimp only at hSw); go_simp; try (with_reducible rfl))
        try simp only [List.getElem_toArray, List.getElem_cons_succ, List.getElem_cons_zero, Act.put, List.setIfInBounds_toArray, List.set_cons_zero, List.set_cons_succ]
        refine' wpAnyH_take (i := 10) (oi := _) (v := _) rfl (by kernel_rfl) (by kernel_rfl) (by kernel_rfl) (fun _ _ _ h => h) (Or.inl ⟨by kernel_rfl, ?_⟩) (by assumption) ?_
        rotate_left
        · (intro w hSw; (try dsimp only at hSw); go_simp; try (with_reducible rfl))
        try simp only [List.getElem_toArray, List.getElem_cons_succ, List.getElem_cons_zero, Act.put, List.setIfInBounds_toArray, List.set_cons_zero, List.set_cons_succ]
        refine' wpAnyH_take (i := 11) (oi := _) (v := _) rfl (by kernel_rfl) (by kernel_rfl) (by kernel_rfl) (fun _ _ _ h => h) (Or.inl ⟨by kernel_rfl, ?_⟩) (by assumption) ?_
        rotate_left
        · (intro w hSw; (try dsimp only at hSw); go_simp; try (with_reducible rfl))
        try simp only [List.getElem_toArray, List.getElem_cons_succ, List.getElem_cons_zero, Act.put, List.setIfInBounds_toArray, List.set_cons_zero, List.set_cons_succ]
        refine wpAnyH_ready (rs := [12, 13]) (by kernel_rfl) (by simp) ?_
        refine (AllReadyH.cons (o := _) rfl (fun K hK => ?_) (AllReadyH.cons (o := _) rfl (fun K hK => ?_) AllReadyH.nil))
        · go_simp
          obtain ⟨X2, hX2⟩ : ∃ X, V1.alloc (.cells #[.int .u64 0, .int .u64 0] 26) = X := ⟨_, rfl⟩
          have bX2 : Below V1.heap.size V1 X2 := by rw [← hX2]; exact ball _ _
          have DX2 := hid (btr BV1.out bX2)
          have zX2 : X2.heap[V1.heap.size]? = some (.cells #[.int .u64 0, .int .u64 0] 26 (0, 0)) := by rw [← hX2]; exact World.alloc_heap_new _ _
          have yg3 := BV1.out.size
          obtain ⟨g3, hg3⟩ : ∃ g, V1.heap.size = g := ⟨_, rfl⟩
          rw [hg3] at zX2 yg3
          have ZX2 := hid zX2
          rw [hX2, hg3]
          clear hX2 hg3 zX2 bX2
          refine hK.out _ _ ?_ (fun hHeld => ?_)
          · (try dsimp only); exact ⟨K0.out _ DX2.out, K1.out _ DX2.out, K2.out _ DX2.out, K3.out _ DX2.out⟩
          clear hK K
          try simp only [List.getElem_toArray, List.getElem_cons_succ, List.getElem_cons_zero, Act.put, List.setIfInBounds_toArray, List.set_cons_zero, List.set_cons_succ]
          refine wpAnyH_ready (rs := [13]) (by kernel_rfl) (by simp) ?_
          refine (AllReadyH.cons (o := _) rfl (fun K hK => ?_) AllReadyH.nil)
          go_simp
          obtain ⟨X4, hX4⟩ : ∃ X, X2.alloc (.cells #[.bool false, .slice none 0 0] 31) = X := ⟨_, rfl⟩
          have bX4 : Below X2.heap.size X2 X4 := by rw [← hX4]; exact ball _ _
          have r6 := hid (row_on ZX2.out bX4)
          have DX4 := hid (btr DX2.out bX4)
          have zX4 : X4.heap[X2.heap.size]? = some (.cells #[.bool false, .slice none 0 0] 31 (0, 0)) := by rw [← hX4]; exact World.alloc_heap_new _ _
          have yg5 := DX2.out.size
          obtain ⟨g5, hg5⟩ : ∃ g, X2.heap.size = g := ⟨_, rfl⟩
          have n7 : g5 ≠ g3 := by have := row_lt ZX2.out; omega
          rw [hg5] at zX4 yg5
          have ZX4 := hid zX4
          rw [hX4, hg5]
          clear hX4 hg5 zX4 bX4
          refine hK.out _ _ ?_ (fun hHeld => ?_)
          · (try dsimp only); exact ⟨K0.out _ DX4.out, K1.out _ DX4.out, K2.out _ DX4.out, K3.out _ DX4.out⟩
          clear hK K
          try simp only [List.getElem_toArray, List.getElem_cons_succ, List.getElem_cons_zero, Act.put, List.setIfInBounds_toArray, List.set_cons_zero, List.set_cons_succ]
          refine wpAnyH_ready (rs := [14]) (by kernel_rfl) (by simp) ?_
          refine (AllReadyH.cons (o := _) rfl (fun K hK => ?_) AllReadyH.nil)
          refine step_store_row (by rfl) 26 (.tmp 7) (.tmp 41) (by rfl) g3 #[.int .u64 mh, .int .u64 ml] (by rfl) (by rfl) 26 _ r6.out info26 (by rfl) (by simp [Value.oneCell']) ?_
          obtain ⟨Y8, hY8⟩ : ∃ Y, X4.setRow g3 #[.int .u64 mh, .int .u64 ml] = Y := ⟨_, rfl⟩
          have KY8 := hid (show Kp (fun j => j = g3) X4 Y8 from by rw [← hY8]; exact setRow_kp _ _ _)
          have AY8 := hid (show Y8.heap[g3]? = some (.cells #[.int .u64 mh, .int .u64 ml] 26 (0, 0)) from by rw [← hY8]; exact setRow_heap X4 g3 _ _ 26 (0, 0) r6.out)
          have DY8 := hid (show Below V.heap.size V Y8 from by rw [← hY8]; exact setRow_below DX4.out yg3)
          have r9 := hid (KY8.out.row ZX4.out (fun e => n7 e))
          rw [hY8]
          refine hK.out _ _ ?_ (fun hHeld => ?_)
          · (try dsimp only); exact ⟨K0.out _ DY8.out, K1.out _ DY8.out, K2.out _ DY8.out, K3.out _ DY8.out⟩
          clear hK K hY8
          try simp only [List.getElem_toArray, List.getElem_cons_succ, List.getElem_cons_zero, Act.put, List.setIfInBounds_toArray, List.set_cons_zero, List.set_cons_succ]
          refine wpAnyH_ready (rs := [15]) (by kernel_rfl) (by simp) ?_
          refine (AllReadyH.cons (o := _) rfl (fun K hK => ?_) AllReadyH.nil)
          refine step_store_row (by rfl) 31 (.tmp 8) (.tmp 47) (by rfl) g5 #[.bool mb, .slice sa sn sc] (by rfl) (by rfl) 31 _ r9.out info32 (by rfl) (by simp [Value.oneCell']) ?_
          obtain ⟨Y10, hY10⟩ : ∃ Y, Y8.setRow g5 #[.bool mb, .slice sa sn sc] = Y := ⟨_, rfl⟩
          have KY10 := hid (show Kp (fun j => j = g5) Y8 Y10 from by rw [← hY10]; exact setRow_kp _ _ _)
          have AY10 := hid (show Y10.heap[g5]? = some (.cells #[.bool mb, .slice sa sn sc] 31 (0, 0)) from by rw [← hY10]; exact setRow_heap Y8 g5 _ _ 31 (0, 0) r9.out)
          have DY10 := hid (show Below V.heap.size V Y10 from by rw [← hY10]; exact setRow_below DY8.out yg5)
          have r11 := hid (KY10.out.row AY8.out (fun e => n7.symm e))
          rw [hY10]
          refine hK.out _ _ ?_ (fun hHeld => ?_)
          · (try dsimp only); exact ⟨K0.out _ DY10.out, K1.out _ DY10.out, K2.out _ DY10.out, K3.out _ DY10.out⟩
          clear hK K hY10
          try simp only [List.getElem_toArray, List.getElem_cons_succ, List.getElem_cons_zero, Act.put, List.setIfInBounds_toArray, List.set_cons_zero, List.set_cons_succ]
          refine wpAnyH_done (by kernel_rfl) ?_ _
          exact ⟨(g3, g5), by kernel_rfl, DY10, r11, AY10⟩
        · go_simp
          obtain ⟨X12, hX12⟩ : ∃ X, V1.alloc (.cells #[.bool false, .slice none 0 0] 31) = X := ⟨_, rfl⟩
          have bX12 : Below V1.heap.size V1 X12 := by rw [← hX12]; exact ball _ _
          have DX12 := hid (btr BV1.out bX12)
          have zX12 : X12.heap[V1.heap.size]? = some (.cells #[.bool false, .slice none 0 0] 31 (0, 0)) := by rw [← hX12]; exact World.alloc_heap_new _ _
          have yg13 := BV1.out.size
          obtain ⟨g13, hg13⟩ : ∃ g, V1.heap.size = g := ⟨_, rfl⟩
          rw [hg13] at zX12 yg13
          have ZX12 := hid zX12
          rw [hX12, hg13]
          clear hX12 hg13 zX12 bX12
          refine hK.out _ _ ?_ (fun hHeld => ?_)
          · (try dsimp only); exact ⟨K0.out _ DX12.out, K1.out _ DX12.out, K2.out _ DX12.out, K3.out _ DX12.out⟩
          clear hK K
          try simp only [List.getElem_toArray, List.getElem_cons_succ, List.getElem_cons_zero, Act.put, List.setIfInBounds_toArray, List.set_cons_zero, List.set_cons_succ]
          refine wpAnyH_ready (rs := [12]) (by kernel_rfl) (by simp) ?_
          refine (AllReadyH.cons (o := _) rfl (fun K hK => ?_) AllReadyH.nil)
          go_simp
          obtain ⟨X14, hX14⟩ : ∃ X, X12.alloc (.cells #[.int .u64 0, .int .u64 0] 26) = X := ⟨_, rfl⟩
          have bX14 : Below X12.heap.size X12 X14 := by rw [← hX14]; exact ball _ _
          have r16 := hid (row_on ZX12.out bX14)
          have DX14 := hid (btr DX12.out bX14)
          have zX14 : X14.heap[X12.heap.size]? = some (.cells #[.int .u64 0, .int .u64 0] 26 (0, 0)) := by rw [← hX14]; exact World.alloc_heap_new _ _
          have yg15 := DX12.out.size
          obtain ⟨g15, hg15⟩ : ∃ g, X12.heap.size = g := ⟨_, rfl⟩
          have n17 : g15 ≠ g13 := by have := row_lt ZX12.out; omega
          rw [hg15] at zX14 yg15
          have ZX14 := hid zX14
          rw [hX14, hg15]
          clear hX14 hg15 zX14 bX14
          refine hK.out _ _ ?_ (fun hHeld => ?_)
          · (try dsimp only); exact ⟨K0.out _ DX14.out, K1.out _ DX14.out, K2.out _ DX14.out, K3.out _ DX14.out⟩
          clear hK K
          try simp only [List.getElem_toArray, List.getElem_cons_succ, List.getElem_cons_zero, Act.put, List.setIfInBounds_toArray, List.set_cons_zero, List.set_cons_succ]
          refine wpAnyH_ready (rs := [14]) (by kernel_rfl) (by simp) ?_
          refine (AllReadyH.cons (o := _) rfl (fun K hK => ?_) AllReadyH.nil)
          refine step_store_row (by rfl) 26 (.tmp 7) (.tmp 41) (by rfl) g15 #[.int .u64 mh, .int .u64 ml] (by rfl) (by rfl) 26 _ ZX14.out info26 (by rfl) (by simp [Value.oneCell']) ?_
          obtain ⟨Y18, hY18⟩ : ∃ Y, X14.setRow g15 #[.int .u64 mh, .int .u64 ml] = Y := ⟨_, rfl⟩
          have KY18 := hid (show Kp (fun j => j = g15) X14 Y18 from by rw [← hY18]; exact setRow_kp _ _ _)
          have AY18 := hid (show Y18.heap[g15]? = some (.cells #[.int .u64 mh, .int .u64 ml] 26 (0, 0)) from by rw [← hY18]; exact setRow_heap X14 g15 _ _ 26 (0, 0) ZX14.out)
          have DY18 := hid (show Below V.heap.size V Y18 from by rw [← hY18]; exact setRow_below DX14.out yg15)
          have r19 := hid (KY18.out.row r16.out (fun e => n17.symm e))
          rw [hY18]
          refine hK.out _ _ ?_ (fun hHeld => ?_)
          · (try dsimp only); exact ⟨K0.out _ DY18.out, K1.out _ DY18.out, K2.out _ DY18.out, K3.out _ DY18.out⟩
          clear hK K hY18
          try simp only [List.getElem_toArray, List.getElem_cons_succ, List.getElem_cons_zero, Act.put, List.setIfInBounds_toArray, List.set_cons_zero, List.set_cons_succ]
          refine wpAnyH_ready (rs := [15]) (by kernel_rfl) (by simp) ?_
          refine (AllReadyH.cons (o := _) rfl (fun K hK => ?_) AllReadyH.nil)
          refine step_store_row (by rfl) 31 (.tmp 8) (.tmp 47) (by rfl) g13 #[.bool mb, .slice sa sn sc] (by rfl) (by rfl) 31 _ r19.out info32 (by rfl) (by simp [Value.oneCell']) ?_
          obtain ⟨Y20, hY20⟩ : ∃ Y, Y18.setRow g13 #[.bool mb, .slice sa sn sc] = Y := ⟨_, rfl⟩
          have KY20 := hid (show Kp (fun j => j = g13) Y18 Y20 from by rw [← hY20]; exact setRow_kp _ _ _)
          have AY20 := hid (show Y20.heap[g13]? = some (.cells #[.bool mb, .slice sa sn sc] 31 (0, 0)) from by rw [← hY20]; exact setRow_heap Y18 g13 _ _ 31 (0, 0) r19.out)
          have DY20 := hid (show Below V.heap.size V Y20 from by rw [← hY20]; exact setRow_below DY18.out yg13)
          have r21 := hid (KY20.out.row AY18.out (fun e => n17 e))
          rw [hY20]
          refine hK.out _ _ ?_ (fun hHeld => ?_)
          · (try dsimp only); exact ⟨K0.out _ DY20.out, K1.out _ DY20.out, K2.out _ DY20.out, K3.out _ DY20.out⟩
          clear hK K hY20
          try simp only [List.getElem_toArray, List.getElem_cons_succ, List.getElem_cons_zero, Act.put, List.setIfInBounds_toArray, List.set_cons_zero, List.set_cons_succ]
          refine wpAnyH_done (by kernel_rfl) ?_ _
          exact ⟨(g15, g13), by kernel_rfl, DY20, r21, AY20⟩
      · rintro ⟨gx, gz⟩ Y ⟨BY, X8, X9⟩
        try simp only [List.getElem_toArray, List.getElem_cons_succ, List.getElem_cons_zero, Act.put, List.setIfInBounds_toArray, List.set_cons_zero, List.set_cons_succ]
        dsimp only at X8 X9
        have N0 := hid (show ∀ U, Below Y.heap.size Y U → U.cell? ⟨gx, 0, none⟩ = some (.int .u64 mh) from fun U h => row_cell (row_on X8.out h) 0)
        have N1 := hid (show ∀ U, Below Y.heap.size Y U → U.cell? ⟨gx, 1, none⟩ = some (.int .u64 ml) from fun U h => row_cell (row_on X8.out h) 1)
        have N2 := hid (show ∀ U, Below Y.heap.size Y U → U.cell? ⟨gz, 0, none⟩ = some (.bool mb) from fun U h => row_cell (row_on X9.out h) 0)
        have N3 := hid (show ∀ U, Below Y.heap.size Y U → U.cell? ⟨gz, 1, none⟩ = some (.slice sa sn sc) from fun U h => row_cell (row_on X9.out h) 1)
        have O0 := hid (show ∀ U, Below Y.heap.size Y U → U.cell? ⟨B, j * 2, none⟩ = some (.int .u64 jh) from fun U h => L0.out U (btr BY.out h))
        have O1 := hid (show ∀ U, Below Y.heap.size Y U → U.cell? ⟨B, j * 2 + 1, none⟩ = some (.int .u64 jl) from fun U h => L1.out U (btr BY.out h))
        have O2 := hid (show ∀ U, Below Y.heap.size Y U → U.cell? ⟨B, 8 + j * 2, none⟩ = some (.bool jb) from fun U h => L2.out U (btr BY.out h))
        have O3 := hid (show ∀ U, Below Y.heap.size Y U → U.cell? ⟨B, 8 + j * 2 + 1, none⟩ = some (.slice ja jn jc) from fun U h => L3.out U (btr BY.out h))
        have CT := hid (show ∀ U : World, Calls Try.prog 6 #[.agg #[.int .u64 mh, .int .u64 ml]] U fun e w' => (∃ xs, IsText mo xs ∧ e = .returned (.string (strOfNums xs))) ∧ Below U.heap.size U w' from fun U => by
          have := text_walk mo U HMA.out
          unfold mv at this
          rw [HMW.out.1, HMW.out.2] at this
          exact this)
        have CU := hid (show ∀ U : World, Below Y.heap.size Y U → Calls Try.prog 7 #[.agg #[.bool mb, .slice sa sn sc]] U fun e w' => (∃ xs, IsText mo xs ∧ e = .returned (.string (strOfNums xs))) ∧ Below U.heap.size U w' from fun U h => reftext_any _ mo U ((A2.out.on BY.out).on h) HMA.out)
        have CW := hid (fun U => words_any mh ml U)
        have CV := hid (show ∀ U : World, Below Y.heap.size Y U → Calls Try.prog 9 #[.agg #[.bool mb, .slice sa sn sc]] U fun e w' => e = .returned (.agg #[.int .u64 mh, .int .u64 ml]) ∧ Below U.heap.size U w' from fun U h => by
          have := refwords_any _ mo U ((A2.out.on BY.out).on h) HMA.out
          rw [HMW.out.1, HMW.out.2] at this
          exact this)
        have CG := hid (show ∀ U : World, Calls Try.prog 10 #[.agg #[.int .u64 mh, .int .u64 ml]] U fun e w' => e = .returned (.int .i64 (Go.Proofs.Ythikjpccmplbiaa.sgn mo)) ∧ Below U.heap.size U w' from fun U => by
          have := sign_any mo U HMA.out
          unfold mv at this
          rw [HMW.out.1, HMW.out.2] at this
          exact this)
        have CH := hid (show ∀ U : World, Below Y.heap.size Y U → Calls Try.prog 11 #[.agg #[.bool mb, .slice sa sn sc]] U fun e w' => e = .returned (.int .i64 (Go.Proofs.Ythikjpccmplbiaa.sgn mo)) ∧ Below U.heap.size U w' from fun U h => rsign_any _ mo U ((A2.out.on BY.out).on h))
        have CC := hid (show ∀ U : World, Calls Try.prog 12 #[.agg #[.int .u64 mh, .int .u64 ml], .agg #[.int .u64 jh, .int .u64 jl]] U fun e w' => e = .returned (.int .i64 (cmpI mo mj)) ∧ Below U.heap.size U w' from fun U => by
          have := mcompare_any mo mj U HMA.out HMJ.out
          unfold mv at this
          rw [HMW.out.1, HMW.out.2, HJW.out.1, HJW.out.2] at this
          exact this)
        have CD := hid (show ∀ U : World, Below Y.heap.size Y U → Calls Try.prog 13 #[.agg #[.bool mb, .slice sa sn sc], .agg #[.bool jb, .slice ja jn jc]] U fun e w' => e = .returned (.int .i64 (cmpI mo mj)) ∧ Below U.heap.size U w' from fun U h => rcompare_any _ _ mo mj U ((A2.out.on BY.out).on h) ((J2.out.on BY.out).on h) HMA.out HMJ.out)
        obtain ⟨sg, hsg⟩ : ∃ z, Go.Proofs.Ythikjpccmplbiaa.sgn mo = z := ⟨_, rfl⟩
        obtain ⟨cm, hcm⟩ : ∃ z, cmpI mo mj = z := ⟨_, rfl⟩
        rw [hsg] at CG CH
        rw [hcm] at CC CD
        have ee := eq2 mh ml
        have BZ := hid (btr BV.out BY.out)
        have MZ := hid (M3.out.on BY.out)
        clear hsg hcm K0 K1 K2 K3 L0 L1 L2 L3 X8 X9 BV o0 o1
        go_upto_region 9 with fail
        obtain ⟨V22, hV22⟩ : ∃ U, Y.drew = U := ⟨_, rfl⟩
        have DV22 := hid (show Below Y.heap.size Y V22 from by rw [← hV22]; exact bdrew1 _)
        have BV22 := hid (btr (Below.refl Y.heap.size Y) DV22.out)
        refine wp_region_held_drew (S := fun U => U.cell? ⟨gx, 0, none⟩ = some (.int .u64 mh) ∧ U.cell? ⟨gx, 1, none⟩ = some (.int .u64 ml) ∧ U.cell? ⟨gz, 0, none⟩ = some (.bool mb) ∧ U.cell? ⟨gz, 1, none⟩ = some (.slice sa sn sc) ∧ U.cell? ⟨B, j * 2, none⟩ = some (.int .u64 jh) ∧ U.cell? ⟨B, j * 2 + 1, none⟩ = some (.int .u64 jl) ∧ U.cell? ⟨B, 8 + j * 2, none⟩ = some (.bool jb) ∧ U.cell? ⟨B, 8 + j * 2 + 1, none⟩ = some (.slice ja jn jc)) (by kernel_rfl) ?_ (fun hHeld => ?_)
        · (try dsimp only); rw [hV22]; exact ⟨N0.out _ BV22.out, N1.out _ BV22.out, N2.out _ BV22.out, N3.out _ BV22.out, O0.out _ BV22.out, O1.out _ BV22.out, O2.out _ BV22.out, O3.out _ BV22.out⟩
        rw [hV22] at hHeld ⊢
        clear hV22
        refine' wpAnyH_take (i := 0) (oi := _) (v := _) rfl (by kernel_rfl) (by kernel_rfl) (by kernel_rfl) (fun _ _ _ h => h) (Or.inl ⟨by kernel_rfl, ?_⟩) (by assumption) ?_
        rotate_left
        · (intro w hSw; (try dsimp only at hSw); go_simp; try (with_reducible rfl))
        try simp only [List.getElem_toArray, List.getElem_cons_succ, List.getElem_cons_zero, Act.put, List.setIfInBounds_toArray, List.set_cons_zero, List.set_cons_succ]
        refine' wpAnyH_take (i := 2) (oi := _) (v := _) rfl (by kernel_rfl) (by kernel_rfl) (by kernel_rfl) (fun _ _ _ h => h) (Or.inl ⟨by kernel_rfl, ?_⟩) (by assumption) ?_
        rotate_left
        · (intro w hSw; (try dsimp only at hSw); go_simp; try (with_reducible rfl))
        try simp only [List.getElem_toArray, List.getElem_cons_succ, List.getElem_cons_zero, Act.put, List.setIfInBounds_toArray, List.set_cons_zero, List.set_cons_succ]
        refine wpAnyH_ready (rs := [1]) (by kernel_rfl) (by simp) ?_
        refine (AllReadyH.cons (o := _) rfl (fun K hK => ?_) AllReadyH.nil)
        go_simp
        go_at_call 6
        with_reducible refine (CT.out V22).mono ?_
        rintro e X23 ⟨⟨xs, hxs, rfl⟩, DbX23⟩
        have DX23 := hid (btr DV22.out DbX23)
        have BX23 := hid (btr BV22.out DbX23)
        (try go_wp2_with fail)
        refine hK.out _ _ ?_ (fun hHeld => ?_)
        · (try dsimp only); exact ⟨N0.out _ BX23.out, N1.out _ BX23.out, N2.out _ BX23.out, N3.out _ BX23.out, O0.out _ BX23.out, O1.out _ BX23.out, O2.out _ BX23.out, O3.out _ BX23.out⟩
        clear hK K
        try simp only [List.getElem_toArray, List.getElem_cons_succ, List.getElem_cons_zero, Act.put, List.setIfInBounds_toArray, List.set_cons_zero, List.set_cons_succ]
        refine wpAnyH_ready (rs := [3]) (by kernel_rfl) (by simp) ?_
        refine (AllReadyH.cons (o := _) rfl (fun K hK => ?_) AllReadyH.nil)
        go_simp
        go_at_call 7
        with_reducible refine (CU.out X23 BX23.out).mono ?_
        rintro e X24 ⟨⟨ys, hys, rfl⟩, DbX24⟩
        have DX24 := hid (btr DX23.out DbX24)
        have BX24 := hid (btr BX23.out DbX24)
        obtain rfl := isText_unique mo _ _ hxs hys
        obtain ⟨T, hT⟩ : ∃ T, strOfNums xs = T := ⟨_, rfl⟩
        rw [hT]
        clear hT hxs hys
        (try go_wp2_with fail)
        refine hK.out _ _ ?_ (fun hHeld => ?_)
        · (try dsimp only); exact ⟨N0.out _ BX24.out, N1.out _ BX24.out, N2.out _ BX24.out, N3.out _ BX24.out, O0.out _ BX24.out, O1.out _ BX24.out, O2.out _ BX24.out, O3.out _ BX24.out⟩
        clear hK K
        try simp only [List.getElem_toArray, List.getElem_cons_succ, List.getElem_cons_zero, Act.put, List.setIfInBounds_toArray, List.set_cons_zero, List.set_cons_succ]
        refine' wpAnyH_take (i := 4) (oi := _) (v := _) rfl (by kernel_rfl) (by kernel_rfl) (by kernel_rfl) (fun _ _ _ h => h) (Or.inl ⟨by kernel_rfl, ?_⟩) (by assumption) ?_
        rotate_left
        · (intro w hSw; (try dsimp only at hSw); go_simp; try (with_reducible rfl))
        try simp only [List.getElem_toArray, List.getElem_cons_succ, List.getElem_cons_zero, Act.put, List.setIfInBounds_toArray, List.set_cons_zero, List.set_cons_succ]
        refine' wpAnyH_take (i := 5) (oi := _) (v := _) rfl (by kernel_rfl) (by kernel_rfl) (by kernel_rfl) (fun _ _ _ h => h) (Or.inl ⟨by kernel_rfl, ?_⟩) (by assumption) ?_
        rotate_left
        · (intro w hSw; (try dsimp only at hSw); go_simp; try (with_reducible rfl))
        try simp only [List.getElem_toArray, List.getElem_cons_succ, List.getElem_cons_zero, Act.put, List.setIfInBounds_toArray, List.set_cons_zero, List.set_cons_succ]
        refine' wpAnyH_take (i := 6) (oi := _) (v := _) rfl (by kernel_rfl) (by kernel_rfl) (by kernel_rfl) (fun _ _ _ h => h) (Or.inl ⟨by kernel_rfl, ?_⟩) (by assumption) ?_
        rotate_left
        · (intro w hSw; (try dsimp only at hSw); go_simp; try (with_reducible rfl))
        try simp only [List.getElem_toArray, List.getElem_cons_succ, List.getElem_cons_zero, Act.put, List.setIfInBounds_toArray, List.set_cons_zero, List.set_cons_succ]
        refine' wpAnyH_take (i := 8) (oi := _) (v := _) rfl (by kernel_rfl) (by kernel_rfl) (by kernel_rfl) (fun _ _ _ h => h) (Or.inl ⟨by kernel_rfl, ?_⟩) (by assumption) ?_
        rotate_left
        · (intro w hSw; (try dsimp only at hSw); go_simp; try (with_reducible rfl))
        try simp only [List.getElem_toArray, List.getElem_cons_succ, List.getElem_cons_zero, Act.put, List.setIfInBounds_toArray, List.set_cons_zero, List.set_cons_succ]
        refine wpAnyH_ready (rs := [7]) (by kernel_rfl) (by simp) ?_
        refine (AllReadyH.cons (o := _) rfl (fun K hK => ?_) AllReadyH.nil)
        go_simp
        go_at_call 8
        with_reducible refine (CW.out X24).mono ?_
        rintro e X25 ⟨rfl, DbX25⟩
        have DX25 := hid (btr DX24.out DbX25)
        have BX25 := hid (btr BX24.out DbX25)
        (try go_wp2_with fail)
        refine hK.out _ _ ?_ (fun hHeld => ?_)
        · (try dsimp only); exact ⟨N0.out _ BX25.out, N1.out _ BX25.out, N2.out _ BX25.out, N3.out _ BX25.out, O0.out _ BX25.out, O1.out _ BX25.out, O2.out _ BX25.out, O3.out _ BX25.out⟩
        clear hK K
        try simp only [List.getElem_toArray, List.getElem_cons_succ, List.getElem_cons_zero, Act.put, List.setIfInBounds_toArray, List.set_cons_zero, List.set_cons_succ]
        refine wpAnyH_ready (rs := [9]) (by kernel_rfl) (by simp) ?_
        refine (AllReadyH.cons (o := _) rfl (fun K hK => ?_) AllReadyH.nil)
        go_simp
        go_at_call 9
        with_reducible refine (CV.out X25 BX25.out).mono ?_
        rintro e X26 ⟨rfl, DbX26⟩
        have DX26 := hid (btr DX25.out DbX26)
        have BX26 := hid (btr BX25.out DbX26)
        (try go_wp2_with fail)
        refine hK.out _ _ ?_ (fun hHeld => ?_)
        · (try dsimp only); exact ⟨N0.out _ BX26.out, N1.out _ BX26.out, N2.out _ BX26.out, N3.out _ BX26.out, O0.out _ BX26.out, O1.out _ BX26.out, O2.out _ BX26.out, O3.out _ BX26.out⟩
        clear hK K
        try simp only [List.getElem_toArray, List.getElem_cons_succ, List.getElem_cons_zero, Act.put, List.setIfInBounds_toArray, List.set_cons_zero, List.set_cons_succ]
        refine' wpAnyH_take (i := 10) (oi := _) (v := _) rfl (by kernel_rfl) (by kernel_rfl) (by kernel_rfl) (fun _ _ _ h => h) (Or.inl ⟨by kernel_rfl, ?_⟩) (by assumption) ?_
        rotate_left
        · (intro w hSw; (try dsimp only at hSw); go_simp; try (with_reducible rfl))
        try simp only [List.getElem_toArray, List.getElem_cons_succ, List.getElem_cons_zero, Act.put, List.setIfInBounds_toArray, List.set_cons_zero, List.set_cons_succ]
        refine' wpAnyH_take (i := 11) (oi := _) (v := _) rfl (by kernel_rfl) (by kernel_rfl) (by kernel_rfl) (fun _ _ _ h => h) (Or.inl ⟨by kernel_rfl, ?_⟩) (by assumption) ?_
        rotate_left
        · (intro w hSw; (try dsimp only at hSw); go_simp; try (with_reducible rfl))
        try simp only [List.getElem_toArray, List.getElem_cons_succ, List.getElem_cons_zero, Act.put, List.setIfInBounds_toArray, List.set_cons_zero, List.set_cons_succ]
        refine' wpAnyH_take (i := 12) (oi := _) (v := _) rfl (by kernel_rfl) (by kernel_rfl) (by kernel_rfl) (fun _ _ _ h => h) (Or.inl ⟨by kernel_rfl, ?_⟩) (by assumption) ?_
        rotate_left
        · (intro w hSw; (try dsimp only at hSw); go_simp; try (with_reducible rfl))
        try simp only [List.getElem_toArray, List.getElem_cons_succ, List.getElem_cons_zero, Act.put, List.setIfInBounds_toArray, List.set_cons_zero, List.set_cons_succ]
        refine' wpAnyH_take (i := 13) (oi := _) (v := _) rfl (by kernel_rfl) (by kernel_rfl) (by kernel_rfl) (fun _ _ _ h => h) (Or.inl ⟨by kernel_rfl, ?_⟩) (by assumption) ?_
        rotate_left
        · (intro w hSw; (try dsimp only at hSw); go_simp; try (with_reducible rfl))
        try simp only [List.getElem_toArray, List.getElem_cons_succ, List.getElem_cons_zero, Act.put, List.setIfInBounds_toArray, List.set_cons_zero, List.set_cons_succ]
        refine' wpAnyH_take (i := 15) (oi := _) (v := _) rfl (by kernel_rfl) (by kernel_rfl) (by kernel_rfl) (fun _ _ _ h => h) (Or.inl ⟨by kernel_rfl, ?_⟩) (by assumption) ?_
        rotate_left
        · (intro w hSw; (try dsimp only at hSw); go_simp; try (with_reducible rfl))
        try simp only [List.getElem_toArray, List.getElem_cons_succ, List.getElem_cons_zero, Act.put, List.setIfInBounds_toArray, List.set_cons_zero, List.set_cons_succ]
        refine wpAnyH_ready (rs := [14]) (by kernel_rfl) (by simp) ?_
        refine (AllReadyH.cons (o := _) rfl (fun K hK => ?_) AllReadyH.nil)
        go_simp
        go_at_call 10
        with_reducible refine (CG.out X26).mono ?_
        rintro e X27 ⟨rfl, DbX27⟩
        have DX27 := hid (btr DX26.out DbX27)
        have BX27 := hid (btr BX26.out DbX27)
        (try go_wp2_with fail)
        refine hK.out _ _ ?_ (fun hHeld => ?_)
        · (try dsimp only); exact ⟨N0.out _ BX27.out, N1.out _ BX27.out, N2.out _ BX27.out, N3.out _ BX27.out, O0.out _ BX27.out, O1.out _ BX27.out, O2.out _ BX27.out, O3.out _ BX27.out⟩
        clear hK K
        try simp only [List.getElem_toArray, List.getElem_cons_succ, List.getElem_cons_zero, Act.put, List.setIfInBounds_toArray, List.set_cons_zero, List.set_cons_succ]
        refine wpAnyH_ready (rs := [16]) (by kernel_rfl) (by simp) ?_
        refine (AllReadyH.cons (o := _) rfl (fun K hK => ?_) AllReadyH.nil)
        go_simp
        go_at_call 11
        with_reducible refine (CH.out X27 BX27.out).mono ?_
        rintro e X28 ⟨rfl, DbX28⟩
        have DX28 := hid (btr DX27.out DbX28)
        have BX28 := hid (btr BX27.out DbX28)
        (try go_wp2_with fail)
        refine hK.out _ _ ?_ (fun hHeld => ?_)
        · (try dsimp only); exact ⟨N0.out _ BX28.out, N1.out _ BX28.out, N2.out _ BX28.out, N3.out _ BX28.out, O0.out _ BX28.out, O1.out _ BX28.out, O2.out _ BX28.out, O3.out _ BX28.out⟩
        clear hK K
        try simp only [List.getElem_toArray, List.getElem_cons_succ, List.getElem_cons_zero, Act.put, List.setIfInBounds_toArray, List.set_cons_zero, List.set_cons_succ]
        refine' wpAnyH_take (i := 17) (oi := _) (v := _) rfl (by kernel_rfl) (by kernel_rfl) (by kernel_rfl) (fun _ _ _ h => h) (Or.inl ⟨by kernel_rfl, ?_⟩) (by assumption) ?_
        rotate_left
        · (intro w hSw; (try dsimp only at hSw); go_simp; try (with_reducible rfl))
        try simp only [List.getElem_toArray, List.getElem_cons_succ, List.getElem_cons_zero, Act.put, List.setIfInBounds_toArray, List.set_cons_zero, List.set_cons_succ]
        refine' wpAnyH_take (i := 18) (oi := _) (v := _) rfl (by kernel_rfl) (by kernel_rfl) (by kernel_rfl) (fun _ _ _ h => h) (Or.inl ⟨by kernel_rfl, ?_⟩) (by assumption) ?_
        rotate_left
        · (intro w hSw; (try dsimp only at hSw); go_simp; try (with_reducible rfl))
        try simp only [List.getElem_toArray, List.getElem_cons_succ, List.getElem_cons_zero, Act.put, List.setIfInBounds_toArray, List.set_cons_zero, List.set_cons_succ]
        refine' wpAnyH_take (i := 19) (oi := _) (v := _) rfl (by kernel_rfl) (by kernel_rfl) (by kernel_rfl) (fun _ _ _ h => h) (Or.inl ⟨by kernel_rfl, ?_⟩) (by assumption) ?_
        rotate_left
        · (intro w hSw; (try dsimp only at hSw); go_simp; try (with_reducible rfl))
        try simp only [List.getElem_toArray, List.getElem_cons_succ, List.getElem_cons_zero, Act.put, List.setIfInBounds_toArray, List.set_cons_zero, List.set_cons_succ]
        refine' wpAnyH_take (i := 20) (oi := _) (v := _) rfl (by kernel_rfl) (by kernel_rfl) (by kernel_rfl) (fun _ _ _ h => h) (Or.inl ⟨by kernel_rfl, ?_⟩) (by assumption) ?_
        rotate_left
        · (intro w hSw; (try dsimp only at hSw); go_simp; try (with_reducible rfl))
        try simp only [List.getElem_toArray, List.getElem_cons_succ, List.getElem_cons_zero, Act.put, List.setIfInBounds_toArray, List.set_cons_zero, List.set_cons_succ]
        refine' wpAnyH_take (i := 21) (oi := _) (v := _) rfl (by kernel_rfl) (by kernel_rfl) (by kernel_rfl) (fun _ _ _ h => h) (Or.inl ⟨by kernel_rfl, ?_⟩) (by assumption) ?_
        rotate_left
        · (intro w hSw; (try dsimp only at hSw); go_simp; try (with_reducible rfl))
        try simp only [List.getElem_toArray, List.getElem_cons_succ, List.getElem_cons_zero, Act.put, List.setIfInBounds_toArray, List.set_cons_zero, List.set_cons_succ]
        refine' wpAnyH_take (i := 22) (oi := _) (v := _) rfl (by kernel_rfl) (by kernel_rfl) (by kernel_rfl) (fun _ _ _ h => h) (Or.inl ⟨by kernel_rfl, ?_⟩) (by assumption) ?_
        rotate_left
        · (intro w hSw; (try dsimp only at hSw); go_simp; try (with_reducible rfl))
        try simp only [List.getElem_toArray, List.getElem_cons_succ, List.getElem_cons_zero, Act.put, List.setIfInBounds_toArray, List.set_cons_zero, List.set_cons_succ]
        refine' wpAnyH_take (i := 23) (oi := _) (v := _) rfl (by kernel_rfl) (by kernel_rfl) (by kernel_rfl) (fun _ _ _ h => h) (Or.inl ⟨by kernel_rfl, ?_⟩) (by assumption) ?_
        rotate_left
        · (intro w hSw; (try dsimp only at hSw); go_simp; try (with_reducible rfl))
        try simp only [List.getElem_toArray, List.getElem_cons_succ, List.getElem_cons_zero, Act.put, List.setIfInBounds_toArray, List.set_cons_zero, List.set_cons_succ]
        refine' wpAnyH_take (i := 24) (oi := _) (v := _) rfl (by kernel_rfl) (by kernel_rfl) (by kernel_rfl) (fun _ _ _ h => h) (Or.inl ⟨by kernel_rfl, ?_⟩) (by assumption) ?_
        rotate_left
        · (intro w hSw; (try dsimp only at hSw); go_simp; try (with_reducible rfl))
        try simp only [List.getElem_toArray, List.getElem_cons_succ, List.getElem_cons_zero, Act.put, List.setIfInBounds_toArray, List.set_cons_zero, List.set_cons_succ]
        refine' wpAnyH_take (i := 25) (oi := _) (v := _) rfl (by kernel_rfl) (by kernel_rfl) (by kernel_rfl) (fun _ _ _ h => h) (Or.inl ⟨by kernel_rfl, ?_⟩) (by assumption) ?_
        rotate_left
        · (intro w hSw; (try dsimp only at hSw); go_simp; try (with_reducible rfl))
        try simp only [List.getElem_toArray, List.getElem_cons_succ, List.getElem_cons_zero, Act.put, List.setIfInBounds_toArray, List.set_cons_zero, List.set_cons_succ]
        refine' wpAnyH_take (i := 26) (oi := _) (v := _) rfl (by kernel_rfl) (by kernel_rfl) (by kernel_rfl) (fun _ _ _ h => h) (Or.inl ⟨by kernel_rfl, ?_⟩) (by assumption) ?_
        rotate_left
        · (intro w hSw; (try dsimp only at hSw); go_simp; try (with_reducible rfl))
        try simp only [List.getElem_toArray, List.getElem_cons_succ, List.getElem_cons_zero, Act.put, List.setIfInBounds_toArray, List.set_cons_zero, List.set_cons_succ]
        refine' wpAnyH_take (i := 28) (oi := _) (v := _) rfl (by kernel_rfl) (by kernel_rfl) (by kernel_rfl) (fun _ _ _ h => h) (Or.inl ⟨by kernel_rfl, ?_⟩) (by assumption) ?_
        rotate_left
        · (intro w hSw; (try dsimp only at hSw); go_simp; try (with_reducible rfl))
        try simp only [List.getElem_toArray, List.getElem_cons_succ, List.getElem_cons_zero, Act.put, List.setIfInBounds_toArray, List.set_cons_zero, List.set_cons_succ]
        refine' wpAnyH_take (i := 29) (oi := _) (v := _) rfl (by kernel_rfl) (by kernel_rfl) (by kernel_rfl) (fun _ _ _ h => h) (Or.inl ⟨by kernel_rfl, ?_⟩) (by assumption) ?_
        rotate_left
        · (intro w hSw; (try dsimp only at hSw); go_simp; try (with_reducible rfl))
        try simp only [List.getElem_toArray, List.getElem_cons_succ, List.getElem_cons_zero, Act.put, List.setIfInBounds_toArray, List.set_cons_zero, List.set_cons_succ]
        refine' wpAnyH_take (i := 30) (oi := _) (v := _) rfl (by kernel_rfl) (by kernel_rfl) (by kernel_rfl) (fun _ _ _ h => h) (Or.inl ⟨by kernel_rfl, ?_⟩) (by assumption) ?_
        rotate_left
        · (intro w hSw; (try dsimp only at hSw); go_simp; try (with_reducible rfl))
        try simp only [List.getElem_toArray, List.getElem_cons_succ, List.getElem_cons_zero, Act.put, List.setIfInBounds_toArray, List.set_cons_zero, List.set_cons_succ]
        refine' wpAnyH_take (i := 31) (oi := _) (v := _) rfl (by kernel_rfl) (by kernel_rfl) (by kernel_rfl) (fun _ _ _ h => h) (Or.inl ⟨by kernel_rfl, ?_⟩) (by assumption) ?_
        rotate_left
        · (intro w hSw; (try dsimp only at hSw); go_simp; try (with_reducible rfl))
        try simp only [List.getElem_toArray, List.getElem_cons_succ, List.getElem_cons_zero, Act.put, List.setIfInBounds_toArray, List.set_cons_zero, List.set_cons_succ]
        refine' wpAnyH_take (i := 32) (oi := _) (v := _) rfl (by kernel_rfl) (by kernel_rfl) (by kernel_rfl) (fun _ _ _ h => h) (Or.inl ⟨by kernel_rfl, ?_⟩) (by assumption) ?_
        rotate_left
        · (intro w hSw; (try dsimp only at hSw); go_simp; try (with_reducible rfl))
        try simp only [List.getElem_toArray, List.getElem_cons_succ, List.getElem_cons_zero, Act.put, List.setIfInBounds_toArray, List.set_cons_zero, List.set_cons_succ]
        refine' wpAnyH_take (i := 33) (oi := _) (v := _) rfl (by kernel_rfl) (by kernel_rfl) (by kernel_rfl) (fun _ _ _ h => h) (Or.inl ⟨by kernel_rfl, ?_⟩) (by assumption) ?_
        rotate_left
        · (intro w hSw; (try dsimp only at hSw); go_simp; try (with_reducible rfl))
        try simp only [List.getElem_toArray, List.getElem_cons_succ, List.getElem_cons_zero, Act.put, List.setIfInBounds_toArray, List.set_cons_zero, List.set_cons_succ]
        refine' wpAnyH_take (i := 34) (oi := _) (v := _) rfl (by kernel_rfl) (by kernel_rfl) (by kernel_rfl) (fun _ _ _ h => h) (Or.inl ⟨by kernel_rfl, ?_⟩) (by assumption) ?_
        rotate_left
        · (intro w hSw; (try dsimp only at hSw); go_simp; try (with_reducible rfl))
        try simp only [List.getElem_toArray, List.getElem_cons_succ, List.getElem_cons_zero, Act.put, List.setIfInBounds_toArray, List.set_cons_zero, List.set_cons_succ]
        refine wpAnyH_ready (rs := [27]) (by kernel_rfl) (by simp) ?_
        refine (AllReadyH.cons (o := _) rfl (fun K hK => ?_) AllReadyH.nil)
        go_simp
        go_at_call 12
        with_reducible refine (CC.out X28).mono ?_
        rintro e X29 ⟨rfl, DbX29⟩
        have DX29 := hid (btr DX28.out DbX29)
        have BX29 := hid (btr BX28.out DbX29)
        (try go_wp2_with fail)
        refine hK.out _ _ ?_ (fun hHeld => ?_)
        · (try dsimp only); exact ⟨N0.out _ BX29.out, N1.out _ BX29.out, N2.out _ BX29.out, N3.out _ BX29.out, O0.out _ BX29.out, O1.out _ BX29.out, O2.out _ BX29.out, O3.out _ BX29.out⟩
        clear hK K
        try simp only [List.getElem_toArray, List.getElem_cons_succ, List.getElem_cons_zero, Act.put, List.setIfInBounds_toArray, List.set_cons_zero, List.set_cons_succ]
        refine wpAnyH_ready (rs := [35]) (by kernel_rfl) (by simp) ?_
        refine (AllReadyH.cons (o := _) rfl (fun K hK => ?_) AllReadyH.nil)
        go_simp
        go_at_call 13
        with_reducible refine (CD.out X29 BX29.out).mono ?_
        rintro e X30 ⟨rfl, DbX30⟩
        have DX30 := hid (btr DX29.out DbX30)
        have BX30 := hid (btr BX29.out DbX30)
        (try go_wp2_with fail)
        refine hK.out _ _ ?_ (fun hHeld => ?_)
        · (try dsimp only); exact ⟨N0.out _ BX30.out, N1.out _ BX30.out, N2.out _ BX30.out, N3.out _ BX30.out, O0.out _ BX30.out, O1.out _ BX30.out, O2.out _ BX30.out, O3.out _ BX30.out⟩
        clear hK K
        try simp only [List.getElem_toArray, List.getElem_cons_succ, List.getElem_cons_zero, Act.put, List.setIfInBounds_toArray, List.set_cons_zero, List.set_cons_succ]
        refine' wpAnyH_take (i := 36) (oi := _) (v := _) rfl (by kernel_rfl) (by kernel_rfl) (by kernel_rfl) (fun _ _ _ h => h) (Or.inl ⟨by kernel_rfl, ?_⟩) (by assumption) ?_
        rotate_left
        · (intro w hSw; (try dsimp only at hSw); go_simp; try (with_reducible rfl))
        try simp only [List.getElem_toArray, List.getElem_cons_succ, List.getElem_cons_zero, Act.put, List.setIfInBounds_toArray, List.set_cons_zero, List.set_cons_succ]
        refine' wpAnyH_take (i := 37) (oi := _) (v := _) rfl (by kernel_rfl) (by kernel_rfl) (by kernel_rfl) (fun _ _ _ h => h) (Or.inl ⟨by kernel_rfl, ?_⟩) (by assumption) ?_
        rotate_left
        · (intro w hSw; (try dsimp only at hSw); go_simp; try (with_reducible rfl))
        try simp only [List.getElem_toArray, List.getElem_cons_succ, List.getElem_cons_zero, Act.put, List.setIfInBounds_toArray, List.set_cons_zero, List.set_cons_succ]
        refine wpAnyH_done (by kernel_rfl) ?_ _
        have BF := hid (btr BZ.out BX30.out)
        have MF := hid (MZ.out.on BX30.out)
        clear N0 N1 N2 N3 O0 O1 O2 O3 CT CU CW CV CG CH CC CD ee BZ MZ
        go_wp2
        go_roundw
        case rel => exact ⟨i + 1, HLT.out, by go_num, BF, ⟨_, MF.out⟩⟩
        case measure => have := HLT.out; simp [intOf]; omega
    · have i1 : ¬ (i : Int) < (n : Int) := by omega
      have c0 : decide ((i : Int) < (n : Int)) = false := decide_eq_false i1
      have c9 : decide (i < n) = false := decide_eq_false hlt
      have C14 := hid cents_m5
      have S5 := hid say_m5
      have S0 := hid say_0
      clear hlt hin i1 HW
      go_wp2_with (first | (go_at_call 14; with_reducible refine (C14.out _).mono ?_; rintro e w2 ⟨rfl, h1⟩; have B2 := hid (btr BW.out h1); clear h1) | (go_at_call 6; with_reducible refine (S5.out _).mono ?_; rintro e w3 ⟨rfl, h1⟩; have B3 := hid (btr B2.out h1); clear h1 S5) | (go_at_call 6; with_reducible refine (S0.out _).mono ?_; rintro e w4 ⟨rfl, h1⟩; have B4 := hid (btr B3.out h1); clear h1))
      go_ret
      exact ⟨rfl, B4.out⟩
end Go.Proofs.Ythikjpccmplbiaa.Dm
