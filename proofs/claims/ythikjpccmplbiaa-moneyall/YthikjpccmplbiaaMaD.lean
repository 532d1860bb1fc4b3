/-
  MoneyAll: the step.
-/
import Derived.Test.YthikjpccmplbiaaMaC
namespace Go.Proofs.Ythikjpccmplbiaa.Dm
open Go.RowKit Go.Deep BigM MonM TexM ParM
set_option linter.unusedVariables false
set_option linter.unusedSimpArgs false
set_option maxHeartbeats 20000000
set_option maxRecDepth 100000
attribute [local go_sem ↓] Go.wp_at_zero Go.wp_at_succ
theorem step_other (kd tt ta tb N h l x y rd : Int) (s : ByteArray) (w W0 : World) (G B : Nat) (m : Nat → Int) (hM : Mw w B m) (hb : Below G W0 w) (hG : G ≤ W0.heap.size) (hB : G ≤ B)
    (hN : -9223372036854775808 ≤ N ∧ N ≤ 9223372036854775807) (hh : 0 ≤ h ∧ h < 18446744073709551616) (hl : 0 ≤ l ∧ l < 18446744073709551616) (hx : 0 ≤ x ∧ x < 4294967296) (hy : 0 ≤ y ∧ y < 4294967296) (hs : s.size ≤ maxLen) (d0 : (kd == 0) = false) (d1 : (kd == 1) = false) (d2 : (kd == 2) = false) (d3 : (kd == 3) = false) (d4 : (kd == 4) = false) (d5 : (kd == 5) = false) (d6 : (kd == 6) = false) (d7 : (kd == 7) = false) :
    Calls Try.prog 4 #[.pointer (some ⟨B, 0, none⟩), .agg #[.int .i64 kd, .int .i64 tt, .int .i64 ta, .int .i64 tb, .int .i64 N, .int .u64 h, .int .u64 l, .string s, .int .u32 x, .int .u32 y, .int .i64 rd]] w fun e w' => e = .returned (.bool true) ∧ Below G W0 w' ∧ ∃ m', Mw w' B m' := by
  obtain ⟨W1, hW1⟩ : ∃ W, w.alloc (.cells #[.int .i64 kd, .int .i64 tt, .int .i64 ta, .int .i64 tb, .int .i64 N, .int .u64 h, .int .u64 l, .string s, .int .u32 x, .int .u32 y, .int .i64 rd] 39) = W := ⟨_, rfl⟩
  have b1 : Below w.heap.size w W1 := by rw [← hW1]; exact ball _ _
  have r1 : W1.heap[w.heap.size]? = some (.cells #[.int .i64 kd, .int .i64 tt, .int .i64 ta, .int .i64 tb, .int .i64 N, .int .u64 h, .int .u64 l, .string s, .int .u32 x, .int .u32 y, .int .i64 rd] 39 (0, 0)) := by rw [← hW1]; exact World.alloc_heap_new _ _
  have M1 := hid (hM.on b1)
  obtain ⟨g3, hg3⟩ : ∃ g, w.heap.size = g := ⟨_, rfl⟩
  rw [hg3] at r1
  have HG3 := hid (And.intro hg3 hM.lt)
  have R1 := hid r1
  have B1 := hid b1
  have c1 : W1.cell? ⟨g3, 1, none⟩ = some (.int .i64 tt) := row_cell r1 1
  have c2 : W1.cell? ⟨g3, 2, none⟩ = some (.int .i64 ta) := row_cell r1 2
  have c3 : W1.cell? ⟨g3, 3, none⟩ = some (.int .i64 tb) := row_cell r1 3
  clear b1 r1 hM
  go_enter Try.func4, Try.ntmps4
  go_upto_region 1 with fail
  go_big_quiet (exact Calls.quiet_of_same (at_any _ _))
  obtain ⟨V, hV⟩ : ∃ V, W1.drewN nq = V := ⟨_, rfl⟩
  have BV := hid (show Below W1.heap.size W1 V from by rw [← hV]; exact bdrewN _ _)
  have M2 := hid (M1.out.on BV.out)
  have R2 := hid (row_on R1.out BV.out)
  have B2 := hid (btr B1.out BV.out)
  rw [hV]
  have HBB := hid (show Below G W0 V ∧ G ≤ W0.heap.size ∧ G ≤ B from ⟨bgo hb hG B2.out, hG, hB⟩)
  clear hb hG hB
  have lo := atN_lt tt
  have la := atN_lt ta
  have lb := atN_lt tb
  generalize atN tt = o at *
  generalize atN ta = i at *
  generalize atN tb = j at *
  obtain ⟨HMA, q1, q2, sa, sn, sc, q3, q4, q5⟩ := M2.out.at i la
  have K0 := hid (show ∀ U, Below V.heap.size V U → U.cell? ⟨B, i * 2, none⟩ = some (.int .u64 (hiW (m i))) from fun U h => (h.cell (p := ⟨B, i * 2, none⟩) M2.out.lt).trans q1)
  have K1 := hid (show ∀ U, Below V.heap.size V U → U.cell? ⟨B, i * 2 + 1, none⟩ = some (.int .u64 (loW (m i))) from fun U h => (h.cell (p := ⟨B, i * 2 + 1, none⟩) M2.out.lt).trans q2)
  have K2 := hid (show ∀ U, Below V.heap.size V U → U.cell? ⟨B, 8 + i * 2, none⟩ = some (.bool (decide (m i < 0))) from fun U h => (h.cell (p := ⟨B, 8 + i * 2, none⟩) M2.out.lt).trans q3)
  have K3 := hid (show ∀ U, Below V.heap.size V U → U.cell? ⟨B, 8 + i * 2 + 1, none⟩ = some (.slice sa sn sc) from fun U h => (h.cell (p := ⟨B, 8 + i * 2 + 1, none⟩) M2.out.lt).trans q4)
  have A2 := hid q5
  have HMI := hid HMA
  have HLO := hid lo
  have HLB := hid lb
  obtain ⟨mi, hmi⟩ : ∃ x, m i = x := ⟨_, rfl⟩
  rw [hmi] at K0 K1 K2 A2 HMI
  obtain ⟨mh, hmh⟩ : ∃ x, hiW mi = x := ⟨_, rfl⟩
  obtain ⟨ml, hml⟩ : ∃ x, loW mi = x := ⟨_, rfl⟩
  obtain ⟨mb, hmb⟩ : ∃ x, decide (mi < 0) = x := ⟨_, rfl⟩
  rw [hmh] at K0
  rw [hml] at K1
  rw [hmb] at K2 A2
  have HMW := hid (And.intro hmh (And.intro hml hmb))
  have i0 : (0 : Int) ≤ (i : Int) := by omega
  have i1 : (i : Int) < 4 := by omega
  clear q1 q2 q3 q4 q5 HMA hV hmi hmh hml hmb la lo lb c1 c2 c3 hW1 M1 R1 B1 BV
  go_upto_region 2 with fail
  refine reg_cut (X := Nat × Nat) (fun a t => ((((((((((((((a.put (some 21) (.pointer (some ⟨B, 0, none⟩))).put (some 22) (.int .i64 i)).put (some 23) (.pointer (some ⟨B, 0, none⟩))).put (some 24) (.pointer (some ⟨B, 0, none⟩))).put (some 25) (.pointer (some ⟨B, i * 2, none⟩))).put (some 26) (.agg #[.int .u64 mh, .int .u64 ml])).put (some 27) (.pointer (some ⟨B, 0, none⟩))).put (some 28) (.int .i64 i)).put (some 29) (.pointer (some ⟨B, 0, none⟩))).put (some 30) (.pointer (some ⟨B, 8, none⟩))).put (some 31) (.pointer (some ⟨B, 8 + i * 2, none⟩))).put (some 32) (.agg #[.bool mb, .slice sa sn sc])).put (some 8) (.pointer (some ⟨t.1, 0, none⟩))).put (some 9) (.pointer (some ⟨t.2, 0, none⟩)))) (fun t V9 => Hid (Below V.heap.size V V9) ∧ Hid (V9.heap[t.1]? = some (.cells #[.int .u64 mh, .int .u64 ml] 26 (0, 0))) ∧ Hid (V9.heap[t.2]? = some (.cells #[.bool mb, .slice sa sn sc] 31 (0, 0))) ∧ Hid (V.heap.size ≤ t.1 ∧ V.heap.size ≤ t.2)) ?_ ?_
  · obtain ⟨V1, hV1⟩ : ∃ U, V.drew = U := ⟨_, rfl⟩
    have BV1 := hid (show Below V.heap.size V V1 from by rw [← hV1]; exact bdrew1 _)
    refine wp_region_held_drew (S := (fun U => U.cell? ⟨B, i * 2, none⟩ = some (.int .u64 mh) ∧ U.cell? ⟨B, i * 2 + 1, none⟩ = some (.int .u64 ml) ∧ U.cell? ⟨B, 8 + i * 2, none⟩ = some (.bool mb) ∧ U.cell? ⟨B, 8 + i * 2 + 1, none⟩ = some (.slice sa sn sc))) (by kernel_rfl) ?_ (fun hHeld => ?_)
    · (try dsimp only); rw [hV1]; exact ⟨K0.out _ BV1.out, K1.out _ BV1.out, K2.out _ BV1.out, K3.out _ BV1.out⟩
    rw [hV1] at hHeld ⊢
    clear hV1
    refine' wpAnyH_take (i := 0) (oi := _) (v := _) rfl (by kernel_rfl) (by kernel_rfl) (by kernel_rfl) (fun _ _ _ h => h) (Or.inl ⟨by kernel_rfl, ?_⟩) (by assumption) ?_
    rotate_left
    · (intro w hSw; (try dsimp only at hSw); go_simp; try (with_reducible rfl))
    try simp only [List.getElem_toArray, List.getElem_cons_succ, List.getElem_cons_zero, Act.put, List.setIfInBounds_toArray, List.set_cons_zero, List.set_cons_succ]
    refine' wpAnyH_take (i := 1) (oi := _) (v := _) rfl (by kernel_rfl) (by kernel_rfl) (by kernel_rfl) (fun _ _ _ h => h) (Or.inl ⟨by kernel_rfl, ?_⟩) (by assumption) ?_
    rotate_left
    · (intro w hSw; (try dsimp only at hSw); go_simp; try (with_reducible rfl))
    try simp only [List.getElem_toArray, List.getElem_cons_succ, List.getElem_cons_zero, Act.put, List.setIfInBounds_toArray, List.set_cons_zero, List.set_cons_succ]
    refine' wpAnyH_take (i := 2) (oi := _) (v := _) rfl (by kernel_rfl) (by kernel_rfl) (by kernel_rfl) (fun _ _ _ h => h) (Or.inl ⟨by kernel_rfl, ?_⟩) (by assumption) ?_
    rotate_left
    · (intro w hSw; (try dsimp only at hSw); go_simp; try (with_reducible rfl))
    try simp only [List.getElem_toArray, List.getElem_cons_succ, List.getElem_cons_zero, Act.put, List.setIfInBounds_toArray, List.set_cons_zero, List.set_cons_succ]
    refine' wpAnyH_take (i := 3) (oi := _) (v := _) rfl (by kernel_rfl) (by kernel_rfl) (by kernel_rfl) (fun _ _ _ h => h) (Or.inl ⟨by kernel_rfl, ?_⟩) (by assumption) ?_
    rotate_left
    · (intro w hSw; (try dsimp only at hSw); go_simp; try (with_reducible rfl))
    try simp only [List.getElem_toArray, List.getElem_cons_succ, List.getElem_cons_zero, Act.put, List.setIfInBounds_toArray, List.set_cons_zero, List.set_cons_succ]
    refine' wpAnyH_take (i := 4) (oi := _) (v := _) rfl (by kernel_rfl) (by kernel_rfl) (by kernel_rfl) (fun _ _ _ h => h) (Or.inl ⟨by kernel_rfl, ?_⟩) (by assumption) ?_
    rotate_left
    · (intro w hSw; (try dsimp only at hSw); go_simp; try (with_reducible rfl))
    try simp only [List.getElem_toArray, List.getElem_cons_succ, List.getElem_cons_zero, Act.put, List.setIfInBounds_toArray, List.set_cons_zero, List.set_cons_succ]
    refine' wpAnyH_take (i := 5) (oi := _) (v := _) rfl (by kernel_rfl) (by kernel_rfl) (by kernel_rfl) (fun _ _ _ h => h) (Or.inl ⟨by kernel_rfl, ?_⟩) (by assumption) ?_
    rotate_left
    · (intro w hSw; (try dsimp only at hSw); go_simp; try (with_reducible rfl))
    try simp only [List.getElem_toArray, List.getElem_cons_succ, List.getElem_cons_zero, Act.put, List.setIfInBounds_toArray, List.set_cons_zero, List.set_cons_succ]
    refine' wpAnyH_take (i := 6) (oi := _) (v := _) rfl (by kernel_rfl) (by kernel_rfl) (by kernel_rfl) (fun _ _ _ h => h) (Or.inl ⟨by kernel_rfl, ?_⟩) (by assumption) ?_
    rotate_left
    · (intro w hSw; (try dsimp only at hSw); go_simp; try (with_reducible rfl))
    try simp only [List.getElem_toArray, List.getElem_cons_succ, List.getElem_cons_zero, Act.put, List.setIfInBounds_toArray, List.set_cons_zero, List.set_cons_succ]
    refine' wpAnyH_take (i := 7) (oi := _) (v := _) rfl (by kernel_rfl) (by kernel_rfl) (by kernel_rfl) (fun _ _ _ h => h) (Or.inl ⟨by kernel_rfl, ?_⟩) (by assumption) ?_
    rotate_left
    · (intro w hSw; (try dsimp only at hSw); go_simp; try (with_reducible rfl))
    try simp only [List.getElem_toArray, List.getElem_cons_succ, List.getElem_cons_zero, Act.put, List.setIfInBounds_toArray, List.set_cons_zero, List.set_cons_succ]
    refine' wpAnyH_take (i := 8) (oi := _) (v := _) rfl (by kernel_rfl) (by kernel_rfl) (by kernel_rfl) (fun _ _ _ h => h) (Or.inl ⟨by kernel_rfl, ?_⟩) (by assumption) ?_
    rotate_left
    · (intro w hSw; (try dsimp only at hSw); go_simp; try (with_reducible rfl))
    try simp only [List.getElem_toArray, List.getElem_cons_succ, List.getElem_cons_zero, Act.put, List.setIfInBounds_toArray, List.set_cons_zero, List.set_cons_succ]
    refine' wpAnyH_take (i := 9) (oi := _) (v := _) rfl (by kernel_rfl) (by kernel_rfl) (by kernel_rfl) (fun _ _ _ h => h) (Or.inl ⟨by kernel_rfl, ?_⟩) (by assumption) ?_
    rotate_left
    · (intro w hSw; (try dsimp only at hSw); go_simp; try (with_reducible rfl))
    try simp only [List.getElem_toArray, List.getElem_cons_succ, List.getElem_cons_zero, Act.put, List.setIfInBounds_toArray, List.set_cons_zero, List.set_cons_succ]
    refine' wpAnyH_take (i := 10) (oi := _) (v := _) rfl (by kernel_rfl) (by kernel_rfl) (by kernel_rfl) (fun _ _ _ h => h) (Or.inl ⟨by kernel_rfl, ?_⟩) (by assumption) ?_
    rotate_left
    · (intro w hSw; (try dsimp only at hSw); go_simp; try (with_reducible rfl))
    try simp only [List.getElem_toArray, List.getElem_cons_succ, List.getElem_cons_zero, Act.put, List.setIfInBounds_toArray, List.set_cons_zero, List.set_cons_succ]
    refine' wpAnyH_take (i := 11) (oi := _) (v := _) rfl (by kernel_rfl) (by kernel_rfl) (by kernel_rfl) (fun _ _ _ h => h) (Or.inl ⟨by kernel_rfl, ?_⟩) (by assumption) ?_
    rotate_left
    · (intro w hSw; (try dsimp only at hSw); go_simp; try (with_reducible rfl))
    try simp only [List.getElem_toArray, List.getElem_cons_succ, List.getElem_cons_zero, Act.put, List.setIfInBounds_toArray, List.set_cons_zero, List.set_cons_succ]
    refine wpAnyH_ready (rs := [12, 13]) (by kernel_rfl) (by simp) ?_
    refine (AllReadyH.cons (o := _) rfl (fun K hK => ?_) (AllReadyH.cons (o := _) rfl (fun K hK => ?_) AllReadyH.nil))
    · go_simp
      obtain ⟨X2, hX2⟩ : ∃ X, V1.alloc (.cells #[.int .u64 0, .int .u64 0] 26) = X := ⟨_, rfl⟩
      have bX2 : Below V1.heap.size V1 X2 := by rw [← hX2]; exact ball _ _
      have DX2 := hid (btr BV1.out bX2)
      have zX2 : X2.heap[V1.heap.size]? = some (.cells #[.int .u64 0, .int .u64 0] 26 (0, 0)) := by rw [← hX2]; exact World.alloc_heap_new _ _
      have yg3 := BV1.out.size
      obtain ⟨g3, hg3⟩ : ∃ g, V1.heap.size = g := ⟨_, rfl⟩
      rw [hg3] at zX2 yg3
      have ZX2 := hid zX2
      rw [hX2, hg3]
      clear hX2 hg3 zX2 bX2
      refine hK.out _ _ ?_ (fun hHeld => ?_)
      · (try dsimp only); exact ⟨K0.out _ DX2.out, K1.out _ DX2.out, K2.out _ DX2.out, K3.out _ DX2.out⟩
      clear hK K
      try simp only [List.getElem_toArray, List.getElem_cons_succ, List.getElem_cons_zero, Act.put, List.setIfInBounds_toArray, List.set_cons_zero, List.set_cons_succ]
      refine wpAnyH_ready (rs := [13]) (by kernel_rfl) (by simp) ?_
      refine (AllReadyH.cons (o := _) rfl (fun K hK => ?_) AllReadyH.nil)
      go_simp
      obtain ⟨X4, hX4⟩ : ∃ X, X2.alloc (.cells #[.bool false, .slice none 0 0] 31) = X := ⟨_, rfl⟩
      have bX4 : Below X2.heap.size X2 X4 := by rw [← hX4]; exact ball _ _
      have r6 := hid (row_on ZX2.out bX4)
      have DX4 := hid (btr DX2.out bX4)
      have zX4 : X4.heap[X2.heap.size]? = some (.cells #[.bool false, .slice none 0 0] 31 (0, 0)) := by rw [← hX4]; exact World.alloc_heap_new _ _
      have yg5 := DX2.out.size
      obtain ⟨g5, hg5⟩ : ∃ g, X2.heap.size = g := ⟨_, rfl⟩
      have n7 : g5 ≠ g3 := by have := row_lt ZX2.out; omega
      rw [hg5] at zX4 yg5
      have ZX4 := hid zX4
      rw [hX4, hg5]
      clear hX4 hg5 zX4 bX4
      refine hK.out _ _ ?_ (fun hHeld => ?_)
      · (try dsimp only); exact ⟨K0.out _ DX4.out, K1.out _ DX4.out, K2.out _ DX4.out, K3.out _ DX4.out⟩
      clear hK K
      try simp only [List.getElem_toArray, List.getElem_cons_succ, List.getElem_cons_zero, Act.put, List.setIfInBounds_toArray, List.set_cons_zero, List.set_cons_succ]
      refine wpAnyH_ready (rs := [14]) (by kernel_rfl) (by simp) ?_
      refine (AllReadyH.cons (o := _) rfl (fun K hK => ?_) AllReadyH.nil)
      refine step_store_row (by rfl) 26 (.tmp 8) (.tmp 26) (by rfl) g3 #[.int .u64 mh, .int .u64 ml] (by rfl) (by rfl) 26 _ r6.out info26 (by rfl) (by simp [Value.oneCell']) ?_
      obtain ⟨Y8, hY8⟩ : ∃ Y, X4.setRow g3 #[.int .u64 mh, .int .u64 ml] = Y := ⟨_, rfl⟩
      have KY8 := hid (show Kp (fun j => j = g3) X4 Y8 from by rw [← hY8]; exact setRow_kp _ _ _)
      have AY8 := hid (show Y8.heap[g3]? = some (.cells #[.int .u64 mh, .int .u64 ml] 26 (0, 0)) from by rw [← hY8]; exact setRow_heap X4 g3 _ _ 26 (0, 0) r6.out)
      have DY8 := hid (show Below V.heap.size V Y8 from by rw [← hY8]; exact setRow_below DX4.out yg3)
      have r9 := hid (KY8.out.row ZX4.out (fun e => n7 e))
      rw [hY8]
      refine hK.out _ _ ?_ (fun hHeld => ?_)
      · (try dsimp only); exact ⟨K0.out _ DY8.out, K1.out _ DY8.out, K2.out _ DY8.out, K3.out _ DY8.out⟩
      clear hK K hY8
      try simp only [List.getElem_toArray, List.getElem_cons_succ, List.getElem_cons_zero, Act.put, List.setIfInBounds_toArray, List.set_cons_zero, List.set_cons_succ]
      refine wpAnyH_ready (rs := [15]) (by kernel_rfl) (by simp) ?_
      refine (AllReadyH.cons (o := _) rfl (fun K hK => ?_) AllReadyH.nil)
      refine step_store_row (by rfl) 31 (.tmp 9) (.tmp 32) (by rfl) g5 #[.bool mb, .slice sa sn sc] (by rfl) (by rfl) 31 _ r9.out info32 (by rfl) (by simp [Value.oneCell']) ?_
      obtain ⟨Y10, hY10⟩ : ∃ Y, Y8.setRow g5 #[.bool mb, .slice sa sn sc] = Y := ⟨_, rfl⟩
      have KY10 := hid (show Kp (fun j => j = g5) Y8 Y10 from by rw [← hY10]; exact setRow_kp _ _ _)
      have AY10 := hid (show Y10.heap[g5]? = some (.cells #[.bool mb, .slice sa sn sc] 31 (0, 0)) from by rw [← hY10]; exact setRow_heap Y8 g5 _ _ 31 (0, 0) r9.out)
      have DY10 := hid (show Below V.heap.size V Y10 from by rw [← hY10]; exact setRow_below DY8.out yg5)
      have r11 := hid (KY10.out.row AY8.out (fun e => n7.symm e))
      rw [hY10]
      refine hK.out _ _ ?_ (fun hHeld => ?_)
      · (try dsimp only); exact ⟨K0.out _ DY10.out, K1.out _ DY10.out, K2.out _ DY10.out, K3.out _ DY10.out⟩
      clear hK K hY10
      try simp only [List.getElem_toArray, List.getElem_cons_succ, List.getElem_cons_zero, Act.put, List.setIfInBounds_toArray, List.set_cons_zero, List.set_cons_succ]
      refine wpAnyH_done (by kernel_rfl) ?_ _
      exact ⟨(g3, g5), by kernel_rfl, DY10, r11, AY10, ⟨yg3, yg5⟩⟩
    · go_simp
      obtain ⟨X12, hX12⟩ : ∃ X, V1.alloc (.cells #[.bool false, .slice none 0 0] 31) = X := ⟨_, rfl⟩
      have bX12 : Below V1.heap.size V1 X12 := by rw [← hX12]; exact ball _ _
      have DX12 := hid (btr BV1.out bX12)
      have zX12 : X12.heap[V1.heap.size]? = some (.cells #[.bool false, .slice none 0 0] 31 (0, 0)) := by rw [← hX12]; exact World.alloc_heap_new _ _
      have yg13 := BV1.out.size
      obtain ⟨g13, hg13⟩ : ∃ g, V1.heap.size = g := ⟨_, rfl⟩
      rw [hg13] at zX12 yg13
      have ZX12 := hid zX12
      rw [hX12, hg13]
      clear hX12 hg13 zX12 bX12
      refine hK.out _ _ ?_ (fun hHeld => ?_)
      · (try dsimp only); exact ⟨K0.out _ DX12.out, K1.out _ DX12.out, K2.out _ DX12.out, K3.out _ DX12.out⟩
      clear hK K
      try simp only [List.getElem_toArray, List.getElem_cons_succ, List.getElem_cons_zero, Act.put, List.setIfInBounds_toArray, List.set_cons_zero, List.set_cons_succ]
      refine wpAnyH_ready (rs := [12]) (by kernel_rfl) (by simp) ?_
      refine (AllReadyH.cons (o := _) rfl (fun K hK => ?_) AllReadyH.nil)
      go_simp
      obtain ⟨X14, hX14⟩ : ∃ X, X12.alloc (.cells #[.int .u64 0, .int .u64 0] 26) = X := ⟨_, rfl⟩
      have bX14 : Below X12.heap.size X12 X14 := by rw [← hX14]; exact ball _ _
      have r16 := hid (row_on ZX12.out bX14)
      have DX14 := hid (btr DX12.out bX14)
      have zX14 : X14.heap[X12.heap.size]? = some (.cells #[.int .u64 0, .int .u64 0] 26 (0, 0)) := by rw [← hX14]; exact World.alloc_heap_new _ _
      have yg15 := DX12.out.size
      obtain ⟨g15, hg15⟩ : ∃ g, X12.heap.size = g := ⟨_, rfl⟩
      have n17 : g15 ≠ g13 := by have := row_lt ZX12.out; omega
      rw [hg15] at zX14 yg15
      have ZX14 := hid zX14
      rw [hX14, hg15]
      clear hX14 hg15 zX14 bX14
      refine hK.out _ _ ?_ (fun hHeld => ?_)
      · (try dsimp only); exact ⟨K0.out _ DX14.out, K1.out _ DX14.out, K2.out _ DX14.out, K3.out _ DX14.out⟩
      clear hK K
      try simp only [List.getElem_toArray, List.getElem_cons_succ, List.getElem_cons_zero, Act.put, List.setIfInBounds_toArray, List.set_cons_zero, List.set_cons_succ]
      refine wpAnyH_ready (rs := [14]) (by kernel_rfl) (by simp) ?_
      refine (AllReadyH.cons (o := _) rfl (fun K hK => ?_) AllReadyH.nil)
      refine step_store_row (by rfl) 26 (.tmp 8) (.tmp 26) (by rfl) g15 #[.int .u64 mh, .int .u64 ml] (by rfl) (by rfl) 26 _ ZX14.out info26 (by rfl) (by simp [Value.oneCell']) ?_
      obtain ⟨Y18, hY18⟩ : ∃ Y, X14.setRow g15 #[.int .u64 mh, .int .u64 ml] = Y := ⟨_, rfl⟩
      have KY18 := hid (show Kp (fun j => j = g15) X14 Y18 from by rw [← hY18]; exact setRow_kp _ _ _)
      have AY18 := hid (show Y18.heap[g15]? = some (.cells #[.int .u64 mh, .int .u64 ml] 26 (0, 0)) from by rw [← hY18]; exact setRow_heap X14 g15 _ _ 26 (0, 0) ZX14.out)
      have DY18 := hid (show Below V.heap.size V Y18 from by rw [← hY18]; exact setRow_below DX14.out yg15)
      have r19 := hid (KY18.out.row r16.out (fun e => n17.symm e))
      rw [hY18]
      refine hK.out _ _ ?_ (fun hHeld => ?_)
      · (try dsimp only); exact ⟨K0.out _ DY18.out, K1.out _ DY18.out, K2.out _ DY18.out, K3.out _ DY18.out⟩
      clear hK K hY18
      try simp only [List.getElem_toArray, List.getElem_cons_succ, List.getElem_cons_zero, Act.put, List.setIfInBounds_toArray, List.set_cons_zero, List.set_cons_succ]
      refine wpAnyH_ready (rs := [15]) (by kernel_rfl) (by simp) ?_
      refine (AllReadyH.cons (o := _) rfl (fun K hK => ?_) AllReadyH.nil)
      refine step_store_row (by rfl) 31 (.tmp 9) (.tmp 32) (by rfl) g13 #[.bool mb, .slice sa sn sc] (by rfl) (by rfl) 31 _ r19.out info32 (by rfl) (by simp [Value.oneCell']) ?_
      obtain ⟨Y20, hY20⟩ : ∃ Y, Y18.setRow g13 #[.bool mb, .slice sa sn sc] = Y := ⟨_, rfl⟩
      have KY20 := hid (show Kp (fun j => j = g13) Y18 Y20 from by rw [← hY20]; exact setRow_kp _ _ _)
      have AY20 := hid (show Y20.heap[g13]? = some (.cells #[.bool mb, .slice sa sn sc] 31 (0, 0)) from by rw [← hY20]; exact setRow_heap Y18 g13 _ _ 31 (0, 0) r19.out)
      have DY20 := hid (show Below V.heap.size V Y20 from by rw [← hY20]; exact setRow_below DY18.out yg13)
      have r21 := hid (KY20.out.row AY18.out (fun e => n17 e))
      rw [hY20]
      refine hK.out _ _ ?_ (fun hHeld => ?_)
      · (try dsimp only); exact ⟨K0.out _ DY20.out, K1.out _ DY20.out, K2.out _ DY20.out, K3.out _ DY20.out⟩
      clear hK K hY20
      try simp only [List.getElem_toArray, List.getElem_cons_succ, List.getElem_cons_zero, Act.put, List.setIfInBounds_toArray, List.set_cons_zero, List.set_cons_succ]
      refine wpAnyH_done (by kernel_rfl) ?_ _
      exact ⟨(g15, g13), by kernel_rfl, DY20, r21, AY20, ⟨yg15, yg13⟩⟩
  · rintro ⟨gx, gz⟩ Y ⟨BY, X8, X9, XL⟩
    try simp only [List.getElem_toArray, List.getElem_cons_succ, List.getElem_cons_zero, Act.put, List.setIfInBounds_toArray, List.set_cons_zero, List.set_cons_succ]
    have HJ := M2.out.at j HLB.out
    clear K0 K1 K2 K3 i0 i1
    have r3 := hid (row_on R2.out BY.out)
    have HGX := hid (show gx ≠ B ∧ gz ≠ B ∧ gx ≠ gz from ⟨by have := M2.out.lt; have := XL.out; omega, by have := M2.out.lt; have := XL.out; omega, fun e => by
      have h8 := X8.out
      have h9 := X9.out
      dsimp only at h8 h9
      rw [e] at h8
      rw [h8] at h9
      injection h9 with h9
      injection h9 with _ h9
      cases h9⟩)
    dsimp only at X8 X9 XL
    have k0 := row_cell r3.out 0
    have AY := hid (A2.out.on BY.out)
    go_upto_region 26 with fail
    clear k0
    have KK := hid (show ∀ U, Below Y.heap.size Y U → U.cell? ⟨gx, 0, none⟩ = some (.int .u64 mh) ∧ U.cell? ⟨gx, 1, none⟩ = some (.int .u64 ml) ∧ U.cell? ⟨gz, 0, none⟩ = some (.bool mb) ∧ U.cell? ⟨gz, 1, none⟩ = some (.slice sa sn sc) from fun U h => ⟨row_cell (row_on X8.out h) 0, row_cell (row_on X8.out h) 1, row_cell (row_on X9.out h) 0, row_cell (row_on X9.out h) 1⟩)
    have K4 := hid (fun U h => (KK.out U h).1)
    have K5 := hid (fun U h => (KK.out U h).2.1)
    have K6 := hid (fun U h => (KK.out U h).2.2.1)
    have K7 := hid (fun U h => (KK.out U h).2.2.2)
    have o0 : (0 : Int) ≤ (o : Int) := by omega
    have o1 : (o : Int) < 4 := by have := HLO.out; omega
    obtain ⟨V22, hV22⟩ : ∃ U, Y.drew = U := ⟨_, rfl⟩
    have DV22 := hid (show Below Y.heap.size Y V22 from by rw [← hV22]; exact bdrew1 _)
    have BV22 := hid (btr (Below.refl Y.heap.size Y) DV22.out)
    have Rw23 := hid (row_on X8.out DV22.out)
    have Rw24 := hid (row_on X9.out DV22.out)
    refine wp_region_held_drew (S := fun U => U.cell? ⟨gx, 0, none⟩ = some (.int .u64 mh) ∧ U.cell? ⟨gx, 1, none⟩ = some (.int .u64 ml) ∧ U.cell? ⟨gz, 0, none⟩ = some (.bool mb) ∧ U.cell? ⟨gz, 1, none⟩ = some (.slice sa sn sc)) (by kernel_rfl) ?_ (fun hHeld => ?_)
    · (try dsimp only); rw [hV22]; exact ⟨K4.out _ BV22.out, K5.out _ BV22.out, K6.out _ BV22.out, K7.out _ BV22.out⟩
    rw [hV22] at hHeld ⊢
    clear hV22
    refine' wpAnyH_take (i := 0) (oi := _) (v := _) rfl (by kernel_rfl) (by kernel_rfl) (by kernel_rfl) (fun _ _ _ h => h) (Or.inl ⟨by kernel_rfl, ?_⟩) (by assumption) ?_
    rotate_left
    · (intro w hSw; (try dsimp only at hSw); go_simp; try (with_reducible rfl))
    try simp only [List.getElem_toArray, List.getElem_cons_succ, List.getElem_cons_zero, Act.put, List.setIfInBounds_toArray, List.set_cons_zero, List.set_cons_succ]
    refine' wpAnyH_take (i := 1) (oi := _) (v := _) rfl (by kernel_rfl) (by kernel_rfl) (by kernel_rfl) (fun _ _ _ h => h) (Or.inl ⟨by kernel_rfl, ?_⟩) (by assumption) ?_
    rotate_left
    · (intro w hSw; (try dsimp only at hSw); go_simp; try (with_reducible rfl))
    try simp only [List.getElem_toArray, List.getElem_cons_succ, List.getElem_cons_zero, Act.put, List.setIfInBounds_toArray, List.set_cons_zero, List.set_cons_succ]
    refine' wpAnyH_take (i := 2) (oi := _) (v := _) rfl (by kernel_rfl) (by kernel_rfl) (by kernel_rfl) (fun _ _ _ h => h) (Or.inl ⟨by kernel_rfl, ?_⟩) (by assumption) ?_
    rotate_left
    · (intro w hSw; (try dsimp only at hSw); go_simp; try (with_reducible rfl))
    try simp only [List.getElem_toArray, List.getElem_cons_succ, List.getElem_cons_zero, Act.put, List.setIfInBounds_toArray, List.set_cons_zero, List.set_cons_succ]
    refine' wpAnyH_take (i := 3) (oi := _) (v := _) rfl (by kernel_rfl) (by kernel_rfl) (by kernel_rfl) (fun _ _ _ h => h) (Or.inl ⟨by kernel_rfl, ?_⟩) (by assumption) ?_
    rotate_left
    · (intro w hSw; (try dsimp only at hSw); go_simp; try (with_reducible rfl))
    try simp only [List.getElem_toArray, List.getElem_cons_succ, List.getElem_cons_zero, Act.put, List.setIfInBounds_toArray, List.set_cons_zero, List.set_cons_succ]
    refine' wpAnyH_take (i := 4) (oi := _) (v := _) rfl (by kernel_rfl) (by kernel_rfl) (by kernel_rfl) (fun _ _ _ h => h) (Or.inl ⟨by kernel_rfl, ?_⟩) (by assumption) ?_
    rotate_left
    · (intro w hSw; (try dsimp only at hSw); go_simp; try (with_reducible rfl))
    try simp only [List.getElem_toArray, List.getElem_cons_succ, List.getElem_cons_zero, Act.put, List.setIfInBounds_toArray, List.set_cons_zero, List.set_cons_succ]
    refine' wpAnyH_take (i := 5) (oi := _) (v := _) rfl (by kernel_rfl) (by kernel_rfl) (by kernel_rfl) (fun _ _ _ h => h) (Or.inl ⟨by kernel_rfl, ?_⟩) (by assumption) ?_
    rotate_left
    · (intro w hSw; (try dsimp only at hSw); go_simp; try (with_reducible rfl))
    try simp only [List.getElem_toArray, List.getElem_cons_succ, List.getElem_cons_zero, Act.put, List.setIfInBounds_toArray, List.set_cons_zero, List.set_cons_succ]
    refine' wpAnyH_take (i := 6) (oi := _) (v := _) rfl (by kernel_rfl) (by kernel_rfl) (by kernel_rfl) (fun _ _ _ h => h) (Or.inl ⟨by kernel_rfl, ?_⟩) (by assumption) ?_
    rotate_left
    · (intro w hSw; (try dsimp only at hSw); go_simp; try (with_reducible rfl))
    try simp only [List.getElem_toArray, List.getElem_cons_succ, List.getElem_cons_zero, Act.put, List.setIfInBounds_toArray, List.set_cons_zero, List.set_cons_succ]
    refine' wpAnyH_take (i := 7) (oi := _) (v := _) rfl (by kernel_rfl) (by kernel_rfl) (by kernel_rfl) (fun _ _ _ h => h) (Or.inl ⟨by kernel_rfl, ?_⟩) (by assumption) ?_
    rotate_left
    · (intro w hSw; (try dsimp only at hSw); go_simp; try (with_reducible rfl))
    try simp only [List.getElem_toArray, List.getElem_cons_succ, List.getElem_cons_zero, Act.put, List.setIfInBounds_toArray, List.set_cons_zero, List.set_cons_succ]
    refine' wpAnyH_take (i := 8) (oi := _) (v := _) rfl (by kernel_rfl) (by kernel_rfl) (by kernel_rfl) (fun _ _ _ h => h) (Or.inl ⟨by kernel_rfl, ?_⟩) (by assumption) ?_
    rotate_left
    · (intro w hSw; (try dsimp only at hSw); go_simp; try (with_reducible rfl))
    try simp only [List.getElem_toArray, List.getElem_cons_succ, List.getElem_cons_zero, Act.put, List.setIfInBounds_toArray, List.set_cons_zero, List.set_cons_succ]
    refine' wpAnyH_take (i := 10) (oi := _) (v := _) rfl (by kernel_rfl) (by kernel_rfl) (by kernel_rfl) (fun _ _ _ h => h) (Or.inl ⟨by kernel_rfl, ?_⟩) (by assumption) ?_
    rotate_left
    · (intro w hSw; (try dsimp only at hSw); go_simp; try (with_reducible rfl))
    try simp only [List.getElem_toArray, List.getElem_cons_succ, List.getElem_cons_zero, Act.put, List.setIfInBounds_toArray, List.set_cons_zero, List.set_cons_succ]
    refine' wpAnyH_take (i := 11) (oi := _) (v := _) rfl (by kernel_rfl) (by kernel_rfl) (by kernel_rfl) (fun _ _ _ h => h) (Or.inl ⟨by kernel_rfl, ?_⟩) (by assumption) ?_
    rotate_left
    · (intro w hSw; (try dsimp only at hSw); go_simp; try (with_reducible rfl))
    try simp only [List.getElem_toArray, List.getElem_cons_succ, List.getElem_cons_zero, Act.put, List.setIfInBounds_toArray, List.set_cons_zero, List.set_cons_succ]
    have MV := hid ((M2.out.on BY.out).on BV22.out)
    have AV := hid (AY.out.on BV22.out)
    have BV := hid (bgo (bgo HBB.out.1 HBB.out.2.1 BY.out) HBB.out.2.1 BV22.out)
    obtain ⟨_, p0, p1, pa, pn, pc, p2, p3, _⟩ := MV.out.at o HLO.out
    have f0 := MV.out.frz (o * 2)
    have f1 := MV.out.frz (o * 2 + 1)
    have f2 := MV.out.frz (8 + o * 2)
    have f3 := MV.out.frz (8 + o * 2 + 1)
    refine wpAnyH_ready (rs := [9]) (by kernel_rfl) (by simp) ?_
    refine (AllReadyH.cons (o := _) rfl (fun K hK => ?_) AllReadyH.nil)
    have t8 := hid (row_off (row_off Rw23.out HGX.out.1 (o * 2) (.int .u64 mh)) HGX.out.1 (o * 2 + 1) (.int .u64 ml))
    have t9 := hid (row_off (row_off Rw24.out HGX.out.2.1 (o * 2) (.int .u64 mh)) HGX.out.2.1 (o * 2 + 1) (.int .u64 ml))
    go_simp
    obtain ⟨Q, hQ⟩ : ∃ Q, (V22.setCell ⟨B, o * 2, none⟩ (.int .u64 mh)).setCell ⟨B, o * 2 + 1, none⟩ (.int .u64 ml) = Q := ⟨_, rfl⟩
    have u2 : Q.cell? ⟨B, 8 + o * 2, none⟩ = some (.bool (decide (m o < 0))) := by rw [← hQ, World.cell?_setCell_other _ _ _ _ (by simp <;> omega), World.cell?_setCell_other _ _ _ _ (by simp <;> omega)]; exact p2
    have u3 : Q.cell? ⟨B, 8 + o * 2 + 1, none⟩ = some (.slice pa pn pc) := by rw [← hQ, World.cell?_setCell_other _ _ _ _ (by simp <;> omega), World.cell?_setCell_other _ _ _ _ (by simp <;> omega)]; exact p3
    have v2 : Q.frozen? ⟨B, 8 + o * 2, none⟩ = false := by rw [← hQ, World.frozen?_setCell, World.frozen?_setCell]; exact f2
    have v3 : Q.frozen? ⟨B, 8 + o * 2 + 1, none⟩ = false := by rw [← hQ, World.frozen?_setCell, World.frozen?_setCell]; exact f3
    rw [hQ] at t8 t9 ⊢
    have HQ := hid hQ
    clear hQ p0 p1 p2 p3 f0 f1 f2 f3
    refine hK.out _ _ ?_ (fun hHeld => ?_)
    · (try dsimp only); exact ⟨row_cell t8.out 0, row_cell t8.out 1, row_cell t9.out 0, row_cell t9.out 1⟩
    clear hK K
    try simp only [List.getElem_toArray, List.getElem_cons_succ, List.getElem_cons_zero, Act.put, List.setIfInBounds_toArray, List.set_cons_zero, List.set_cons_succ]
    refine' wpAnyH_take (i := 12) (oi := _) (v := _) rfl (by kernel_rfl) (by kernel_rfl) (by kernel_rfl) (fun _ _ _ h => h) (Or.inl ⟨by kernel_rfl, ?_⟩) (by assumption) ?_
    rotate_left
    · (intro w hSw; (try dsimp only at hSw); go_simp; try (with_reducible rfl))
    try simp only [List.getElem_toArray, List.getElem_cons_succ, List.getElem_cons_zero, Act.put, List.setIfInBounds_toArray, List.set_cons_zero, List.set_cons_succ]
    refine wpAnyH_ready (rs := [13]) (by kernel_rfl) (by simp) ?_
    refine (AllReadyH.cons (o := _) rfl (fun K hK => ?_) AllReadyH.nil)
    have t10 := hid (row_off (row_off t8.out HGX.out.1 (8 + o * 2) (.bool mb)) HGX.out.1 (8 + o * 2 + 1) (.slice sa sn sc))
    have t11 := hid (row_off (row_off t9.out HGX.out.2.1 (8 + o * 2) (.bool mb)) HGX.out.2.1 (8 + o * 2 + 1) (.slice sa sn sc))
    go_simp
    have MF := hid (show Mw ((Q.setCell ⟨B, 8 + o * 2, none⟩ (.bool mb)).setCell ⟨B, 8 + o * 2 + 1, none⟩ (.slice sa sn sc)) B (fun k => if k = o then mi else m k) from by
      rw [← HQ.out]
      have := MV.out.put o HLO.out mi HMI.out _ _ _ _ AV.out
      rw [HMW.out.1, HMW.out.2.1] at this
      exact this)
    have BF := hid (show Below G W0 ((Q.setCell ⟨B, 8 + o * 2, none⟩ (.bool mb)).setCell ⟨B, 8 + o * 2 + 1, none⟩ (.slice sa sn sc)) from by
      rw [← HQ.out]
      exact (((BV.out.setCell HBB.out.2.2 _).setCell HBB.out.2.2 _).setCell HBB.out.2.2 _).setCell HBB.out.2.2 _)
    obtain ⟨F, hF⟩ : ∃ F, (Q.setCell ⟨B, 8 + o * 2, none⟩ (.bool mb)).setCell ⟨B, 8 + o * 2 + 1, none⟩ (.slice sa sn sc) = F := ⟨_, rfl⟩
    rw [hF] at t10 t11 MF BF ⊢
    clear hF u2 u3 v2 v3
    refine hK.out _ _ ?_ (fun hHeld => ?_)
    · (try dsimp only); exact ⟨row_cell t10.out 0, row_cell t10.out 1, row_cell t11.out 0, row_cell t11.out 1⟩
    clear hK K
    try simp only [List.getElem_toArray, List.getElem_cons_succ, List.getElem_cons_zero, Act.put, List.setIfInBounds_toArray, List.set_cons_zero, List.set_cons_succ]
    refine wpAnyH_done (by kernel_rfl) ?_ _
    go_wp2
    go_ret
    exact ⟨rfl, BF.out, _, MF.out⟩
end Go.Proofs.Ythikjpccmplbiaa.Dm
