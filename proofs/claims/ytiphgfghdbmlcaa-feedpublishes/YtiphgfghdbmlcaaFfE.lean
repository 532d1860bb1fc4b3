/-
  FeedPublishes: the walk.
-/
import Derived.Test.YtiphgfghdbmlcaaFfD
namespace Go.Proofs.Ytiphgfghdbmlcaa
open Go.RowKit Go.Deep
set_option linter.unusedVariables false
set_option linter.unusedSimpArgs false
set_option maxHeartbeats 16000000
set_option maxRecDepth 100000
attribute [local go_sem ↓] Go.wp_at_zero Go.wp_at_succ
theorem publishes_no (d : Int) (hd : ¬ (1 ≤ d ∧ d ≤ 64)) (q : Option Addr) (cap n : Nat) (w : World) (hm : n ≤ maxLen) :
    Calls Try.prog 3 #[.int .i64 d, .slice q n cap] w fun e w' => e = .returned (.bool true) ∧ Below w.heap.size w w' := by
  have C1 := hid (newP_no d hd w)
  have C2 := hid (fun U => rnewP_no d hd U)
  unfold maxLen at hm
  by_cases hn : 0 < n
  all_goals
    go_enter Try.func3, Try.ntmps3
    go_wp2_with (first | (go_at_call 7; with_reducible refine (C1.out).mono ?_; rintro e w1 ⟨rfl, hb⟩; have HB1 := hid hb; clear hb) | (go_at_call 8; with_reducible refine (C2.out _).mono ?_; rintro e w2 ⟨rfl, hb⟩; have HB2 := hid hb; clear hb))
    go_loopw [9] (fun iv wr => iv = .int .i64 0 ∧ Hid (Below w.heap.size w wr)) (fun _ _ => 0)
    case atStart => exact ⟨rfl, btr (btr HB1.out HB2.out) (ball _ _)⟩
    case round =>
      obtain ⟨rfl, HB⟩ := hrel
      go_wp2
      go_ret
      exact ⟨rfl, HB.out⟩
theorem publishes_ok (d : Nat) (d1 : 1 ≤ d) (d2 : d ≤ 64) (q : Option Addr) (cap : Nat) (l : List Tu) (w : World) (h : Tz w q l) (hm : l.length ≤ maxLen) :
    Calls Try.prog 3 #[.int .i64 d, .slice q l.length cap] w fun e w' => e = .returned (.bool true) ∧ Below w.heap.size w w' := by
  have C1 := hid (newP_ok d d1 d2 w)
  have C2 := hid (fun U => rnewP_ok d d1 d2 U)
  have HT := hid h
  obtain ⟨n, hn⟩ : ∃ n, l.length = n := ⟨_, rfl⟩
  have HN := hid hn
  rw [hn] at hm ⊢
  unfold maxLen at hm
  clear h hn
  go_enter Try.func3, Try.ntmps3
  go_upto_region 3 with (first | (go_at_call 7; with_reducible refine (C1.out).mono ?_; rintro e w1 ⟨B, rfl, hp, hB, hb⟩; have HP1 := hid hp; have HBB := hid hB; have HB1 := hid hb; clear hb hp hB) | (go_at_call 8; with_reducible refine (C2.out _).mono ?_; rintro e w2 ⟨rfl, hb⟩; have HB2 := hid hb; clear hb))
  obtain ⟨W, hW⟩ : ∃ W, w2.alloc (.cells #[.int .i64 d, .int .u64 0, .slice none 0 0, .slice none 0 0] 32) = W := ⟨_, rfl⟩
  obtain ⟨D, hD⟩ : ∃ D, w2.heap.size = D := ⟨_, rfl⟩
  have HB3 := hid (show Below w2.heap.size w2 W from by rw [← hW]; exact ball _ _)
  have ST := hid (show Ls w B D d 0 none 0 [] none 0 [] none 0 none 0 W from ⟨(HP1.out.on HB2.out).on HB3.out, Lo.nil0 _ _, Lo.nil0 _ _, by rw [← hW, ← hD]; exact World.alloc_heap_new _ _, Lo.nil0 _ _, Lo.nil0 _ _, btr (btr HB1.out HB2.out) HB3.out, HBB.out, by rw [← hD]; exact (btr HB1.out HB2.out).size⟩)
  rw [hW, hD]
  clear hW hD HB1 HB2 HB3 HP1 HBB C1 C2
  go_wp2
  go_loopw [9] (fun iv wr => ∃ (i : Nat) (sq : Int) (p1 : Option Addr) (c1 : Nat) (l1 : List Lv) (p2 : Option Addr) (c2 : Nat) (l2 : List Lv) (r1 : Option Addr) (e1 : Nat) (r2 : Option Addr) (e2 : Nat), i ≤ n ∧ iv = .int .i64 i ∧ Hid (Ls w B D d sq p1 c1 l1 p2 c2 l2 r1 e1 r2 e2 wr)) (fun iv _ => n - (intOf iv).toNat)
  case atStart => exact ⟨0, 0, none, 0, [], none, 0, [], none, 0, none, 0, by omega, rfl, ST.out⟩
  case round =>
    obtain ⟨i, sq, p1, c1, l1, p2, c2, l2, r1, e1, r2, e2, hi, rfl, HC⟩ := hrel
    clear ST
    by_cases hlt : i < n
    · have hil : i < l.length := by have := HN.out; omega
      obtain ⟨gT, oT, rfl, hgT, a0, a1, a2, hK⟩ := HT.out i hil
      obtain ⟨z, hz⟩ : ∃ z, l[i] = z := ⟨_, rfl⟩
      rw [hz] at a0 a1 a2 hK
      obtain ⟨nb, hnb⟩ : ∃ k, z.lb.length = k := ⟨_, rfl⟩
      obtain ⟨ns, hns⟩ : ∃ k, z.ls.length = k := ⟨_, rfl⟩
      obtain ⟨ne, hne⟩ : ∃ k, z.le.length = k := ⟨_, rfl⟩
      rw [hnb] at a0
      rw [hns] at a1
      rw [hne] at a2
      have HNb := hid hnb
      have HNs := hid hns
      have HNe := hid hne
      have HKK := hid hK
      have i0 : (0 : Int) ≤ (i : Int) := by omega
      have i1 : (i : Int) < (n : Int) := by omega
      have HTC := hid (show ∀ U, Below w.heap.size w U → U.cell? ⟨gT, oT + i * 3, none⟩ = some (.slice z.pb nb z.cb) ∧ U.cell? ⟨gT, oT + i * 3 + 1, none⟩ = some (.slice z.ps ns z.cs) ∧ U.cell? ⟨gT, oT + i * 3 + 2, none⟩ = some (.slice z.pe ne z.ce) from fun U hU => ⟨(hU.cell (p := ⟨gT, oT + i * 3, none⟩) hgT).trans a0, (hU.cell (p := ⟨gT, oT + i * 3 + 1, none⟩) hgT).trans a1, (hU.cell (p := ⟨gT, oT + i * 3 + 2, none⟩) hgT).trans a2⟩)
      have CC := hid (show ∀ U, Below wr.heap.size wr U → Calls Try.prog 9 #[.agg #[.int .u64 0, .slice z.pb nb z.cb, .slice z.ps ns z.cs]] U fun e w' => ∃ q1 d1 q2 d2, e = .returned (.agg #[.int .u64 0, .slice q1 nb d1, .slice q2 ns d2]) ∧ Hid (Lo wr.heap.size w' q1 d1 z.lb) ∧ Hid (Lo wr.heap.size w' q2 d2 z.ls) ∧ Hid (∀ g, OfP q1 g → ¬ OfP q2 g) ∧ Hid (Below U.heap.size U w') from fun U hU => by
        have := copiedL_any 0 z.pb z.ps z.cb z.cs z.lb z.ls U (HKK.out.hb.on (HC.out.b.trans (hU.mono HC.out.b.size))) (HKK.out.hs.on (HC.out.b.trans (hU.mono HC.out.b.size))) (by have := HKK.out.bb; omega) (by have := HKK.out.bs; omega)
        rw [hnb, hns] at this
        exact this.mono (fun e w' hh => by obtain ⟨q1, d1, q2, d2, h1, h2, h3, h4, h5⟩ := hh; exact ⟨q1, d1, q2, d2, h1, h2.base hU.size, h3.base hU.size, h4, h5⟩))
      have HTR := hid (show ∀ U, Below wr.heap.size wr U → U.cell? ⟨gT, oT + i * 3, none⟩ = some (.slice z.pb nb z.cb) ∧ U.cell? ⟨gT, oT + i * 3 + 1, none⟩ = some (.slice z.ps ns z.cs) ∧ U.cell? ⟨gT, oT + i * 3 + 2, none⟩ = some (.slice z.pe ne z.ce) from fun U hU => HTC.out U (btr HC.out.b hU))
      clear hz hnb hns hne hK hgT a0 a1 a2 hil
      go_upto_region 8 with fail
      refine reg_cut (X := Nat × Option Addr × Nat × Option Addr × Nat) (fun a t => (((((((((((((a.put (some 49) (.slice (some ⟨gT, oT, none⟩) n cap)).put (some 50) (.int .i64 i)).put (some 51) (.pointer (some ⟨gT, oT + i * 3, none⟩))).put (some 52) (.pointer (some ⟨gT, oT + i * 3, none⟩))).put (some 53) (.slice z.pb nb z.cb)).put (some 54) (.slice (some ⟨gT, oT, none⟩) n cap)).put (some 55) (.int .i64 i)).put (some 56) (.pointer (some ⟨gT, oT + i * 3, none⟩))).put (some 57) (.pointer (some ⟨gT, oT + i * 3 + 1, none⟩))).put (some 58) (.slice z.ps ns z.cs)).put (some 59) (.agg #[.int .u64 0, .slice z.pb nb z.cb, .slice z.ps ns z.cs])).put (some 60) (.agg #[.int .u64 0, .slice t.2.1 nb t.2.2.1, .slice t.2.2.2.1 ns t.2.2.2.2])).put (some 10) (.pointer (some ⟨t.1, 0, none⟩)))) (fun t V => Hid (Below wr.heap.size wr V) ∧ Hid (V.heap[t.1]? = some (.cells #[.int .u64 0, .slice t.2.1 nb t.2.2.1, .slice t.2.2.2.1 ns t.2.2.2.2] 30 (0, 0))) ∧ Hid (Lo wr.heap.size V t.2.1 t.2.2.1 z.lb) ∧ Hid (Lo wr.heap.size V t.2.2.2.1 t.2.2.2.2 z.ls) ∧ Hid (∀ g, OfP t.2.1 g → ¬ OfP t.2.2.2.1 g)) ?_ ?_
      · obtain ⟨V1, hV1⟩ : ∃ U, wr.drew = U := ⟨_, rfl⟩
        have BV1 := hid (show Below wr.heap.size wr V1 from by rw [← hV1]; exact bdrew1 _)
        refine wp_region_held_drew (S := (fun U => U.cell? ⟨gT, oT + i * 3, none⟩ = some (.slice z.pb nb z.cb) ∧ U.cell? ⟨gT, oT + i * 3 + 1, none⟩ = some (.slice z.ps ns z.cs))) (by kernel_rfl) ?_ (fun hHeld => ?_)
        · (try dsimp only); rw [hV1]; exact ⟨(HTR.out _ BV1.out).1, (HTR.out _ BV1.out).2.1⟩
        rw [hV1] at hHeld ⊢
        clear hV1
        refine' wpAnyH_take (i := 0) (oi := _) (v := _) rfl (by kernel_rfl) (by kernel_rfl) (by kernel_rfl) (fun _ _ _ h => h) (Or.inl ⟨by kernel_rfl, ?_⟩) (by assumption) ?_
        rotate_left
        · (intro w hSw; (try dsimp only at hSw); go_simp; try (with_reducible rfl))
        try simp only [List.getElem_toArray, List.getElem_cons_succ, List.getElem_cons_zero, Act.put, List.setIfInBounds_toArray, List.set_cons_zero, List.set_cons_succ]
        refine' wpAnyH_take (i := 1) (oi := _) (v := _) rfl (by kernel_rfl) (by kernel_rfl) (by kernel_rfl) (fun _ _ _ h => h) (Or.inl ⟨by kernel_rfl, ?_⟩) (by assumption) ?_
        rotate_left
        · (intro w hSw; (try dsimp only at hSw); go_simp; try (with_reducible rfl))
        try simp only [List.getElem_toArray, List.getElem_cons_succ, List.getElem_cons_zero, Act.put, List.setIfInBounds_toArray, List.set_cons_zero, List.set_cons_succ]
        refine' wpAnyH_take (i := 2) (oi := _) (v := _) rfl (by kernel_rfl) (by kernel_rfl) (by kernel_rfl) (fun _ _ _ h => h) (Or.inl ⟨by kernel_rfl, ?_⟩) (by assumption) ?_
        rotate_left
        · (intro w hSw; (try dsimp only at hSw); go_simp; try (with_reducible rfl))
        try simp only [List.getElem_toArray, List.getElem_cons_succ, List.getElem_cons_zero, Act.put, List.setIfInBounds_toArray, List.set_cons_zero, List.set_cons_succ]
        refine' wpAnyH_take (i := 3) (oi := _) (v := _) rfl (by kernel_rfl) (by kernel_rfl) (by kernel_rfl) (fun _ _ _ h => h) (Or.inl ⟨by kernel_rfl, ?_⟩) (by assumption) ?_
        rotate_left
        · (intro w hSw; (try dsimp only at hSw); go_simp; try (with_reducible rfl))
        try simp only [List.getElem_toArray, List.getElem_cons_succ, List.getElem_cons_zero, Act.put, List.setIfInBounds_toArray, List.set_cons_zero, List.set_cons_succ]
        refine' wpAnyH_take (i := 4) (oi := _) (v := _) rfl (by kernel_rfl) (by kernel_rfl) (by kernel_rfl) (fun _ _ _ h => h) (Or.inl ⟨by kernel_rfl, ?_⟩) (by assumption) ?_
        rotate_left
        · (intro w hSw; (try dsimp only at hSw); go_simp; try (with_reducible rfl))
        try simp only [List.getElem_toArray, List.getElem_cons_succ, List.getElem_cons_zero, Act.put, List.setIfInBounds_toArray, List.set_cons_zero, List.set_cons_succ]
        refine' wpAnyH_take (i := 5) (oi := _) (v := _) rfl (by kernel_rfl) (by kernel_rfl) (by kernel_rfl) (fun _ _ _ h => h) (Or.inl ⟨by kernel_rfl, ?_⟩) (by assumption) ?_
        rotate_left
        · (intro w hSw; (try dsimp only at hSw); go_simp; try (with_reducible rfl))
        try simp only [List.getElem_toArray, List.getElem_cons_succ, List.getElem_cons_zero, Act.put, List.setIfInBounds_toArray, List.set_cons_zero, List.set_cons_succ]
        refine' wpAnyH_take (i := 6) (oi := _) (v := _) rfl (by kernel_rfl) (by kernel_rfl) (by kernel_rfl) (fun _ _ _ h => h) (Or.inl ⟨by kernel_rfl, ?_⟩) (by assumption) ?_
        rotate_left
        · (intro w hSw; (try dsimp only at hSw); go_simp; try (with_reducible rfl))
        try simp only [List.getElem_toArray, List.getElem_cons_succ, List.getElem_cons_zero, Act.put, List.setIfInBounds_toArray, List.set_cons_zero, List.set_cons_succ]
        refine' wpAnyH_take (i := 7) (oi := _) (v := _) rfl (by kernel_rfl) (by kernel_rfl) (by kernel_rfl) (fun _ _ _ h => h) (Or.inl ⟨by kernel_rfl, ?_⟩) (by assumption) ?_
        rotate_left
        · (intro w hSw; (try dsimp only at hSw); go_simp; try (with_reducible rfl))
        try simp only [List.getElem_toArray, List.getElem_cons_succ, List.getElem_cons_zero, Act.put, List.setIfInBounds_toArray, List.set_cons_zero, List.set_cons_succ]
        refine' wpAnyH_take (i := 8) (oi := _) (v := _) rfl (by kernel_rfl) (by kernel_rfl) (by kernel_rfl) (fun _ _ _ h => h) (Or.inl ⟨by kernel_rfl, ?_⟩) (by assumption) ?_
        rotate_left
        · (intro w hSw; (try dsimp only at hSw); go_simp; try (with_reducible rfl))
        try simp only [List.getElem_toArray, List.getElem_cons_succ, List.getElem_cons_zero, Act.put, List.setIfInBounds_toArray, List.set_cons_zero, List.set_cons_succ]
        refine' wpAnyH_take (i := 9) (oi := _) (v := _) rfl (by kernel_rfl) (by kernel_rfl) (by kernel_rfl) (fun _ _ _ h => h) (Or.inl ⟨by kernel_rfl, ?_⟩) (by assumption) ?_
        rotate_left
        · (intro w hSw; (try dsimp only at hSw); go_simp; try (with_reducible rfl))
        try simp only [List.getElem_toArray, List.getElem_cons_succ, List.getElem_cons_zero, Act.put, List.setIfInBounds_toArray, List.set_cons_zero, List.set_cons_succ]
        refine' wpAnyH_take (i := 10) (oi := _) (v := _) rfl (by kernel_rfl) (by kernel_rfl) (by kernel_rfl) (fun _ _ _ h => h) (Or.inl ⟨by kernel_rfl, ?_⟩) (by assumption) ?_
        rotate_left
        · (intro w hSw; (try dsimp only at hSw); go_simp; try (with_reducible rfl))
        try simp only [List.getElem_toArray, List.getElem_cons_succ, List.getElem_cons_zero, Act.put, List.setIfInBounds_toArray, List.set_cons_zero, List.set_cons_succ]
        refine wpAnyH_ready (rs := [11, 12]) (by kernel_rfl) (by simp) ?_
        refine (AllReadyH.cons (o := _) rfl (fun K hK => ?_) (AllReadyH.cons (o := _) rfl (fun K hK => ?_) AllReadyH.nil))
        · go_simp
          go_at_call 9
          with_reducible refine (CC.out V1 BV1.out).mono ?_
          rintro e X2 ⟨q1, d1', q2, d2', rfl, LA, LB, AP, DbX2⟩
          have DX2 := hid (btr BV1.out DbX2.out)
          have UX2 := hid (BV1.out.size)
          (try go_wp2_with fail)
          refine hK.out _ _ ?_ (fun hHeld => ?_)
          · (try dsimp only); exact ⟨(HTR.out _ DX2.out).1, (HTR.out _ DX2.out).2.1⟩
          clear hK K
          try simp only [List.getElem_toArray, List.getElem_cons_succ, List.getElem_cons_zero, Act.put, List.setIfInBounds_toArray, List.set_cons_zero, List.set_cons_succ]
          refine wpAnyH_ready (rs := [12]) (by kernel_rfl) (by simp) ?_
          refine (AllReadyH.cons (o := _) rfl (fun K hK => ?_) AllReadyH.nil)
          go_simp
          obtain ⟨X3, hX3⟩ : ∃ X, X2.alloc (.cells #[.int .u64 0, .slice none 0 0, .slice none 0 0] 30) = X := ⟨_, rfl⟩
          have bX3 : Below X2.heap.size X2 X3 := by rw [← hX3]; exact ball _ _
          have e5 := hid (LA.out.on bX3)
          have e6 := hid (LB.out.on bX3)
          have DX3 := hid (btr DX2.out bX3)
          have zX3 : X3.heap[X2.heap.size]? = some (.cells #[.int .u64 0, .slice none 0 0, .slice none 0 0] 30 (0, 0)) := by rw [← hX3]; exact World.alloc_heap_new _ _
          have yg4 := DX2.out.size
          obtain ⟨g4, hg4⟩ : ∃ g, X2.heap.size = g := ⟨_, rfl⟩
          rw [hg4] at zX3 yg4
          have ZX3 := hid zX3
          rw [hX3, hg4]
          clear hX3 hg4 zX3 bX3
          refine hK.out _ _ ?_ (fun hHeld => ?_)
          · (try dsimp only); exact ⟨(HTR.out _ DX3.out).1, (HTR.out _ DX3.out).2.1⟩
          clear hK K
          try simp only [List.getElem_toArray, List.getElem_cons_succ, List.getElem_cons_zero, Act.put, List.setIfInBounds_toArray, List.set_cons_zero, List.set_cons_succ]
          refine wpAnyH_ready (rs := [13]) (by kernel_rfl) (by simp) ?_
          refine (AllReadyH.cons (o := _) rfl (fun K hK => ?_) AllReadyH.nil)
          refine step_store_row (by rfl) 30 (.tmp 10) (.tmp 60) (by rfl) g4 #[.int .u64 0, .slice q1 nb d1', .slice q2 ns d2'] (by rfl) (by rfl) 30 _ ZX3.out infoP (by rfl) (by simp [Value.oneCell']) ?_
          obtain ⟨Y7, hY7⟩ : ∃ Y, X3.setRow g4 #[.int .u64 0, .slice q1 nb d1', .slice q2 ns d2'] = Y := ⟨_, rfl⟩
          have KY7 := hid (show Kp (fun j => j = g4) X3 Y7 from by rw [← hY7]; exact setRow_kp _ _ _)
          have AY7 := hid (show Y7.heap[g4]? = some (.cells #[.int .u64 0, .slice q1 nb d1', .slice q2 ns d2'] 30 (0, 0)) from by rw [← hY7]; exact setRow_heap X3 g4 _ _ 30 (0, 0) ZX3.out)
          have DY7 := hid (show Below wr.heap.size wr Y7 from by rw [← hY7]; exact setRow_below DX3.out yg4)
          have e8 := hid (e5.out.kept KY7.out (fun g hg e => by obtain ⟨cu, hc⟩ := e5.out.ty hg; exact row_ne hc ZX3.out (by decide) e))
          have e9 := hid (e6.out.kept KY7.out (fun g hg e => by obtain ⟨cu, hc⟩ := e6.out.ty hg; exact row_ne hc ZX3.out (by decide) e))
          rw [hY7]
          refine hK.out _ _ ?_ (fun hHeld => ?_)
          · (try dsimp only); exact ⟨(HTR.out _ DY7.out).1, (HTR.out _ DY7.out).2.1⟩
          clear hK K hY7
          try simp only [List.getElem_toArray, List.getElem_cons_succ, List.getElem_cons_zero, Act.put, List.setIfInBounds_toArray, List.set_cons_zero, List.set_cons_succ]
          refine wpAnyH_done (by kernel_rfl) ?_ _
          exact ⟨(g4, q1, d1', q2, d2'), by kernel_rfl, DY7, AY7, e8, e9, AP⟩
        · go_simp
          obtain ⟨X10, hX10⟩ : ∃ X, V1.alloc (.cells #[.int .u64 0, .slice none 0 0, .slice none 0 0] 30) = X := ⟨_, rfl⟩
          have bX10 : Below V1.heap.size V1 X10 := by rw [← hX10]; exact ball _ _
          have DX10 := hid (btr BV1.out bX10)
          have zX10 : X10.heap[V1.heap.size]? = some (.cells #[.int .u64 0, .slice none 0 0, .slice none 0 0] 30 (0, 0)) := by rw [← hX10]; exact World.alloc_heap_new _ _
          have yg11 := BV1.out.size
          obtain ⟨g11, hg11⟩ : ∃ g, V1.heap.size = g := ⟨_, rfl⟩
          rw [hg11] at zX10 yg11
          have ZX10 := hid zX10
          rw [hX10, hg11]
          clear hX10 hg11 zX10 bX10
          refine hK.out _ _ ?_ (fun hHeld => ?_)
          · (try dsimp only); exact ⟨(HTR.out _ DX10.out).1, (HTR.out _ DX10.out).2.1⟩
          clear hK K
          try simp only [List.getElem_toArray, List.getElem_cons_succ, List.getElem_cons_zero, Act.put, List.setIfInBounds_toArray, List.set_cons_zero, List.set_cons_succ]
          refine wpAnyH_ready (rs := [11]) (by kernel_rfl) (by simp) ?_
          refine (AllReadyH.cons (o := _) rfl (fun K hK => ?_) AllReadyH.nil)
          go_simp
          go_at_call 9
          with_reducible refine (CC.out X10 DX10.out).mono ?_
          rintro e X12 ⟨q1, d1', q2, d2', rfl, LA, LB, AP, DbX12⟩
          have r13 := hid (row_on ZX10.out DbX12.out)
          have DX12 := hid (btr DX10.out DbX12.out)
          have UX12 := hid (DX10.out.size)
          (try go_wp2_with fail)
          refine hK.out _ _ ?_ (fun hHeld => ?_)
          · (try dsimp only); exact ⟨(HTR.out _ DX12.out).1, (HTR.out _ DX12.out).2.1⟩
          clear hK K
          try simp only [List.getElem_toArray, List.getElem_cons_succ, List.getElem_cons_zero, Act.put, List.setIfInBounds_toArray, List.set_cons_zero, List.set_cons_succ]
          refine wpAnyH_ready (rs := [13]) (by kernel_rfl) (by simp) ?_
          refine (AllReadyH.cons (o := _) rfl (fun K hK => ?_) AllReadyH.nil)
          refine step_store_row (by rfl) 30 (.tmp 10) (.tmp 60) (by rfl) g11 #[.int .u64 0, .slice q1 nb d1', .slice q2 ns d2'] (by rfl) (by rfl) 30 _ r13.out infoP (by rfl) (by simp [Value.oneCell']) ?_
          obtain ⟨Y14, hY14⟩ : ∃ Y, X12.setRow g11 #[.int .u64 0, .slice q1 nb d1', .slice q2 ns d2'] = Y := ⟨_, rfl⟩
          have KY14 := hid (show Kp (fun j => j = g11) X12 Y14 from by rw [← hY14]; exact setRow_kp _ _ _)
          have AY14 := hid (show Y14.heap[g11]? = some (.cells #[.int .u64 0, .slice q1 nb d1', .slice q2 ns d2'] 30 (0, 0)) from by rw [← hY14]; exact setRow_heap X12 g11 _ _ 30 (0, 0) r13.out)
          have DY14 := hid (show Below wr.heap.size wr Y14 from by rw [← hY14]; exact setRow_below DX12.out yg11)
          have e15 := hid (LA.out.kept KY14.out (fun g hg e => by obtain ⟨cu, hc⟩ := LA.out.ty hg; exact row_ne hc r13.out (by decide) e))
          have e16 := hid (LB.out.kept KY14.out (fun g hg e => by obtain ⟨cu, hc⟩ := LB.out.ty hg; exact row_ne hc r13.out (by decide) e))
          rw [hY14]
          refine hK.out _ _ ?_ (fun hHeld => ?_)
          · (try dsimp only); exact ⟨(HTR.out _ DY14.out).1, (HTR.out _ DY14.out).2.1⟩
          clear hK K hY14
          try simp only [List.getElem_toArray, List.getElem_cons_succ, List.getElem_cons_zero, Act.put, List.setIfInBounds_toArray, List.set_cons_zero, List.set_cons_succ]
          refine wpAnyH_done (by kernel_rfl) ?_ _
          exact ⟨(g11, q1, d1', q2, d2'), by kernel_rfl, DY14, AY14, e15, e16, AP⟩
      · rintro ⟨P, q1, f1, q2, f2⟩ V1 ⟨BV1, HPI, LA, LB, AP⟩
        dsimp only at HPI LA LB AP
        try simp only [List.getElem_toArray, List.getElem_cons_succ, List.getElem_cons_zero, Act.put, List.setIfInBounds_toArray, List.set_cons_zero, List.set_cons_succ]
        clear CC
        obtain ⟨x0, x1, x2⟩ := HTR.out _ (btr BV1.out (ball V1 (.cells #[] 85)))
        have HEr := hid ((HKK.out.he.on HC.out.b).on (btr BV1.out (ball V1 (.cells #[] 85))))
        have HM0 := hid (made0 (w := V1) V1 85 13 (Nat.le_refl _))
        have HXl := hid (evc_len z.le)
        rw [HNe.out] at HXl
        have HQe := hid (show z.pe = none → ne = 0 ∧ z.ce = 0 from fun e => by have := HKK.out.he.nil e; rw [← HNe.out, this.1]; exact ⟨rfl, this.2⟩)
        have bne : ne * 104 ≤ 140737488355328 := by rw [← HNe.out]; exact HKK.out.be
        go_upto_region 10 with (at_builtin; refine wpList_app_rd (by rfl) (.tmp 61) (.tmp 66) 36 85 _ 13 104 (by rfl) Try.underlying36 infoE13 rfl (by decide) V1.heap.size _ 0 [] (by rfl) HM0.out z.pe z.ce ne (evc z.le) (by rfl) HQe.out HXl.out HEr.out.get (evc_one _) (by unfold maxLen; omega) (by omega) (by simp) ?_; intro v' V2 hown hgrow; obtain ⟨qe, de, rfl⟩ := own_form hown; have HOe := hid hown; have BV2 := hid (below_grown (base := 0) (ball V1 (.cells #[] 85)) HM0.out hgrow); clear hown hgrow)
        have HRe := hid (show Re V2 qe de z.le from own_re (n := 0 + ne) (by have := HOe.out; simp only [List.nil_append] at this; exact this) (by rw [HNe.out]; omega))
        have BV12 := hid (btr BV1.out BV2.out)
        have LS2 := hid (HC.out.on BV12.out)
        have LA2 := hid (LA.out.on BV2.out)
        have LB2 := hid (LB.out.on BV2.out)
        have HPI2 := hid (row_on HPI.out BV2.out)
        obtain ⟨M, hM⟩ : ∃ M, pM d sq l1 l2 z.lb z.ls z.le = M := ⟨_, rfl⟩
        obtain ⟨nM, hnM⟩ : ∃ k, M.length = k := ⟨_, rfl⟩
        obtain ⟨E, hE⟩ : ∃ E, pE z.lb z.ls z.le = E := ⟨_, rfl⟩
        obtain ⟨S, hS⟩ : ∃ S, pS d sq l1 l2 z.lb z.ls z.le = S := ⟨_, rfl⟩
        obtain ⟨A, hA⟩ : ∃ A, pA d l1 z.lb z.ls z.le = A := ⟨_, rfl⟩
        obtain ⟨G, hG⟩ : ∃ G, pB d l2 z.lb z.ls z.le = G := ⟨_, rfl⟩
        obtain ⟨nA, hnA⟩ : ∃ k, A.length = k := ⟨_, rfl⟩
        obtain ⟨nG, hnG⟩ : ∃ k, G.length = k := ⟨_, rfl⟩
        have CP := hid (publish_all B d sq p1 p2 q1 q2 qe c1 c2 f1 f2 de l1 l2 z.lb z.ls z.le V2 LS2.out.pb LA2.out.rl LB2.out.rl HRe.out HKK.out.be LS2.out.o1 LS2.out.o2)
        rw [hM, hnM, hE, hS, hA, hG, HNb.out, HNs.out, HNe.out] at CP
        obtain ⟨na1, hna1⟩ : ∃ k, l1.length = k := ⟨_, rfl⟩
        obtain ⟨na2, hna2⟩ : ∃ k, l2.length = k := ⟨_, rfl⟩
        have CR := hid (show ∀ U, Below w.heap.size w U → Lo 0 U r1 e1 l1 → Lo 0 U r2 e2 l2 → Calls Try.prog 11 #[.agg #[.int .i64 d, .int .u64 sq, .slice r1 na1 e1, .slice r2 na2 e2], .slice z.pb nb z.cb, .slice z.ps ns z.cs, .slice z.pe ne z.ce] U fun e w' => ∃ qw dw s1 g1 s2 g2, e = .returned (.tuple #[.agg #[.int .i64 d, .int .u64 S, .slice s1 nA g1, .slice s2 nG g2], .slice qw nM dw, .int .i64 E]) ∧ Hid (Dw U.heap.size w' qw dw M) ∧ Hid (Below U.heap.size U w') ∧ Hid (Lo 0 w' s1 g1 A) ∧ Hid (Lo 0 w' s2 g2 G) ∧ Hid (Fr U.heap.size r1 s1) ∧ Hid (Fr U.heap.size r2 s2) from fun U hU h1 h2 => by
          have := rpublish_all d sq r1 r2 z.pb z.ps z.pe e1 e2 z.cb z.cs z.ce l1 l2 z.lb z.ls z.le U ⟨h1.rl, h2.rl, LS2.out.pb.k1, LS2.out.pb.k2, LS2.out.pb.n1, LS2.out.pb.n2, LS2.out.pb.d1, LS2.out.pb.d2, LS2.out.pb.sq⟩ (HKK.out.hb.on hU) (HKK.out.hs.on hU) (HKK.out.he.on hU) HKK.out.be h1 h2
          rw [hM, hE, hS, hA, hG, hnM, HNb.out, HNs.out, HNe.out, hna1, hna2, hnA, hnG] at this
          exact this)
        have HNM := hid hnM
        have HNA := hid hnA
        have HNG := hid hnG
        have HNa1 := hid hna1
        have HNa2 := hid hna2
        clear hM hE hS hA hG hnM hnA hnG hna1 hna2 HEr HM0 HXl HQe HOe x0 x1 x2
        obtain ⟨k0, k1, k2⟩ := row3 HPI2.out
        go_upto_region 11 with (go_at_call 10; with_reducible refine (CP.out).mono ?_; rintro e V3 ⟨q5, d5, s1, g1, s2, g2, rfl, h1, h2, h3, h4, h5, h6, h7⟩; have TL3 := hid h1; have PB3 := hid h2; have KP3 := hid h3; have SA3 := hid h4; have SG3 := hid h5; have FA3 := hid h6; have FG3 := hid h7; clear h1 h2 h3 h4 h5 h6 h7)
        have KB3 := hid (show Below w.heap.size w V3 from LS2.out.b.trans (KP3.out.below LS2.out.b.size (fun g hg e => by have := HC.out.lB; have e' : g = B := e; omega)))
        have HDR := hid (show V3.heap[D]? = some (.cells #[.int .i64 d, .int .u64 sq, .slice r1 na1 e1, .slice r2 na2 e2] 32 (0, 0)) from by
          have := KP3.out.row LS2.out.dr (fun e => row_ne LS2.out.dr LS2.out.pb.row (by decide) e)
          rw [HNa1.out, HNa2.out] at this
          exact this)
        have X13 := hid (show Lo 0 V3 r1 e1 l1 from LS2.out.x1.kept KP3.out (fun g hg e => by obtain ⟨cu, hc⟩ := LS2.out.x1.ty hg; exact row_ne hc LS2.out.pb.row (by decide) e))
        have X23 := hid (show Lo 0 V3 r2 e2 l2 from LS2.out.x2.kept KP3.out (fun g hg e => by obtain ⟨cu, hc⟩ := LS2.out.x2.ty hg; exact row_ne hc LS2.out.pb.row (by decide) e))
        have CR3 := hid (fun U (hU : Below V3.heap.size V3 U) => CR.out U (btr KB3.out hU) (X13.out.on hU) (X23.out.on hU))
        have HT3 := hid (fun U (hU : Below V3.heap.size V3 U) => HTC.out U (btr KB3.out hU))
        clear CR k0 k1 k2
        refine reg_cut (X := Nat × Option Addr × Nat × Option Addr × Nat × Option Addr × Nat) (fun a t => ((((((((((((((((((((((((a.put (some 79) (.agg #[.int .i64 d, .int .u64 sq, .slice r1 na1 e1, .slice r2 na2 e2])).put (some 80) (.slice (some ⟨gT, oT, none⟩) n cap)).put (some 81) (.int .i64 i)).put (some 82) (.pointer (some ⟨gT, oT + i * 3, none⟩))).put (some 83) (.pointer (some ⟨gT, oT + i * 3, none⟩))).put (some 84) (.slice z.pb nb z.cb)).put (some 85) (.slice (some ⟨gT, oT, none⟩) n cap)).put (some 86) (.int .i64 i)).put (some 87) (.pointer (some ⟨gT, oT + i * 3, none⟩))).put (some 88) (.pointer (some ⟨gT, oT + i * 3 + 1, none⟩))).put (some 89) (.slice z.ps ns z.cs)).put (some 90) (.slice (some ⟨gT, oT, none⟩) n cap)).put (some 91) (.int .i64 i)).put (some 92) (.pointer (some ⟨gT, oT + i * 3, none⟩))).put (some 93) (.pointer (some ⟨gT, oT + i * 3 + 2, none⟩))).put (some 94) (.slice z.pe ne z.ce)).put (some 95) ((.tuple #[.agg #[.int .i64 d, .int .u64 S, .slice t.2.2.2.1 nA t.2.2.2.2.1, .slice t.2.2.2.2.2.1 nG t.2.2.2.2.2.2], .slice t.2.1 nM t.2.2.1, .int .i64 E]))).put (some 78) ((.tuple #[.agg #[.int .i64 d, .int .u64 S, .slice t.2.2.2.1 nA t.2.2.2.2.1, .slice t.2.2.2.2.2.1 nG t.2.2.2.2.2.2], .slice t.2.1 nM t.2.2.1, .int .i64 E]))).put (some 96) (.agg #[.int .i64 d, .int .u64 S, .slice t.2.2.2.1 nA t.2.2.2.2.1, .slice t.2.2.2.2.2.1 nG t.2.2.2.2.2.2])).put (some 97) (.slice t.2.1 nM t.2.2.1)).put (some 98) (.int .i64 E)).put (some 14) (.pointer (some ⟨t.1, 0, none⟩))).put (some 15) (.slice t.2.1 nM t.2.2.1)).put (some 16) (.int .i64 E))) (fun t V => Hid (Below V3.heap.size V3 V) ∧ Hid (V.heap[t.1]? = some (.cells #[.int .i64 d, .int .u64 S, .slice t.2.2.2.1 nA t.2.2.2.2.1, .slice t.2.2.2.2.2.1 nG t.2.2.2.2.2.2] 32 (0, 0))) ∧ Hid (Dw V3.heap.size V t.2.1 t.2.2.1 M) ∧ Hid (Lo 0 V t.2.2.2.1 t.2.2.2.2.1 A) ∧ Hid (Lo 0 V t.2.2.2.2.2.1 t.2.2.2.2.2.2 G) ∧ Hid (Fr V3.heap.size r1 t.2.2.2.1) ∧ Hid (Fr V3.heap.size r2 t.2.2.2.2.2.1) ∧ Hid (V3.heap.size ≤ t.1)) ?_ ?_
        · obtain ⟨V17, hV17⟩ : ∃ U, V3.drew = U := ⟨_, rfl⟩
          have BV17 := hid (show Below V3.heap.size V3 V17 from by rw [← hV17]; exact bdrew1 _)
          have r18 := hid (row_on HDR.out BV17.out)
          refine wp_region_held_drew (S := (fun U => U.cell? ⟨D, 0, none⟩ = some (.int .i64 d) ∧ U.cell? ⟨D, 1, none⟩ = some (.int .u64 sq) ∧ U.cell? ⟨D, 2, none⟩ = some (.slice r1 na1 e1) ∧ U.cell? ⟨D, 3, none⟩ = some (.slice r2 na2 e2) ∧ U.cell? ⟨gT, oT + i * 3, none⟩ = some (.slice z.pb nb z.cb) ∧ U.cell? ⟨gT, oT + i * 3 + 1, none⟩ = some (.slice z.ps ns z.cs) ∧ U.cell? ⟨gT, oT + i * 3 + 2, none⟩ = some (.slice z.pe ne z.ce))) (by kernel_rfl) ?_ (fun hHeld => ?_)
          · (try dsimp only); rw [hV17]; exact ⟨row_cell r18.out 0, row_cell r18.out 1, row_cell r18.out 2, row_cell r18.out 3, (HT3.out _ BV17.out).1, (HT3.out _ BV17.out).2.1, (HT3.out _ BV17.out).2.2⟩
          rw [hV17] at hHeld ⊢
          clear hV17
          refine' wpAnyH_take (i := 0) (oi := _) (v := _) rfl (by kernel_rfl) (by kernel_rfl) (by kernel_rfl) (fun _ _ _ h => h) (Or.inl ⟨by kernel_rfl, ?_⟩) (by assumption) ?_
          rotate_left
          · (intro w hSw; (try dsimp only at hSw); go_simp; try (with_reducible rfl))
          try simp only [List.getElem_toArray, List.getElem_cons_succ, List.getElem_cons_zero, Act.put, List.setIfInBounds_toArray, List.set_cons_zero, List.set_cons_succ]
          refine' wpAnyH_take (i := 1) (oi := _) (v := _) rfl (by kernel_rfl) (by kernel_rfl) (by kernel_rfl) (fun _ _ _ h => h) (Or.inl ⟨by kernel_rfl, ?_⟩) (by assumption) ?_
          rotate_left
          · (intro w hSw; (try dsimp only at hSw); go_simp; try (with_reducible rfl))
          try simp only [List.getElem_toArray, List.getElem_cons_succ, List.getElem_cons_zero, Act.put, List.setIfInBounds_toArray, List.set_cons_zero, List.set_cons_succ]
          refine' wpAnyH_take (i := 2) (oi := _) (v := _) rfl (by kernel_rfl) (by kernel_rfl) (by kernel_rfl) (fun _ _ _ h => h) (Or.inl ⟨by kernel_rfl, ?_⟩) (by assumption) ?_
          rotate_left
          · (intro w hSw; (try dsimp only at hSw); go_simp; try (with_reducible rfl))
          try simp only [List.getElem_toArray, List.getElem_cons_succ, List.getElem_cons_zero, Act.put, List.setIfInBounds_toArray, List.set_cons_zero, List.set_cons_succ]
          refine' wpAnyH_take (i := 3) (oi := _) (v := _) rfl (by kernel_rfl) (by kernel_rfl) (by kernel_rfl) (fun _ _ _ h => h) (Or.inl ⟨by kernel_rfl, ?_⟩) (by assumption) ?_
          rotate_left
          · (intro w hSw; (try dsimp only at hSw); go_simp; try (with_reducible rfl))
          try simp only [List.getElem_toArray, List.getElem_cons_succ, List.getElem_cons_zero, Act.put, List.setIfInBounds_toArray, List.set_cons_zero, List.set_cons_succ]
          refine' wpAnyH_take (i := 4) (oi := _) (v := _) rfl (by kernel_rfl) (by kernel_rfl) (by kernel_rfl) (fun _ _ _ h => h) (Or.inl ⟨by kernel_rfl, ?_⟩) (by assumption) ?_
          rotate_left
          · (intro w hSw; (try dsimp only at hSw); go_simp; try (with_reducible rfl))
          try simp only [List.getElem_toArray, List.getElem_cons_succ, List.getElem_cons_zero, Act.put, List.setIfInBounds_toArray, List.set_cons_zero, List.set_cons_succ]
          refine' wpAnyH_take (i := 5) (oi := _) (v := _) rfl (by kernel_rfl) (by kernel_rfl) (by kernel_rfl) (fun _ _ _ h => h) (Or.inl ⟨by kernel_rfl, ?_⟩) (by assumption) ?_
          rotate_left
          · (intro w hSw; (try dsimp only at hSw); go_simp; try (with_reducible rfl))
          try simp only [List.getElem_toArray, List.getElem_cons_succ, List.getElem_cons_zero, Act.put, List.setIfInBounds_toArray, List.set_cons_zero, List.set_cons_succ]
          refine' wpAnyH_take (i := 6) (oi := _) (v := _) rfl (by kernel_rfl) (by kernel_rfl) (by kernel_rfl) (fun _ _ _ h => h) (Or.inl ⟨by kernel_rfl, ?_⟩) (by assumption) ?_
          rotate_left
          · (intro w hSw; (try dsimp only at hSw); go_simp; try (with_reducible rfl))
          try simp only [List.getElem_toArray, List.getElem_cons_succ, List.getElem_cons_zero, Act.put, List.setIfInBounds_toArray, List.set_cons_zero, List.set_cons_succ]
          refine' wpAnyH_take (i := 7) (oi := _) (v := _) rfl (by kernel_rfl) (by kernel_rfl) (by kernel_rfl) (fun _ _ _ h => h) (Or.inl ⟨by kernel_rfl, ?_⟩) (by assumption) ?_
          rotate_left
          · (intro w hSw; (try dsimp only at hSw); go_simp; try (with_reducible rfl))
          try simp only [List.getElem_toArray, List.getElem_cons_succ, List.getElem_cons_zero, Act.put, List.setIfInBounds_toArray, List.set_cons_zero, List.set_cons_succ]
          refine' wpAnyH_take (i := 8) (oi := _) (v := _) rfl (by kernel_rfl) (by kernel_rfl) (by kernel_rfl) (fun _ _ _ h => h) (Or.inl ⟨by kernel_rfl, ?_⟩) (by assumption) ?_
          rotate_left
          · (intro w hSw; (try dsimp only at hSw); go_simp; try (with_reducible rfl))
          try simp only [List.getElem_toArray, List.getElem_cons_succ, List.getElem_cons_zero, Act.put, List.setIfInBounds_toArray, List.set_cons_zero, List.set_cons_succ]
          refine' wpAnyH_take (i := 9) (oi := _) (v := _) rfl (by kernel_rfl) (by kernel_rfl) (by kernel_rfl) (fun _ _ _ h => h) (Or.inl ⟨by kernel_rfl, ?_⟩) (by assumption) ?_
          rotate_left
          · (intro w hSw; (try dsimp only at hSw); go_simp; try (with_reducible rfl))
          try simp only [List.getElem_toArray, List.getElem_cons_succ, List.getElem_cons_zero, Act.put, List.setIfInBounds_toArray, List.set_cons_zero, List.set_cons_succ]
          refine' wpAnyH_take (i := 10) (oi := _) (v := _) rfl (by kernel_rfl) (by kernel_rfl) (by kernel_rfl) (fun _ _ _ h => h) (Or.inl ⟨by kernel_rfl, ?_⟩) (by assumption) ?_
          rotate_left
          · (intro w hSw; (try dsimp only at hSw); go_simp; try (with_reducible rfl))
          try simp only [List.getElem_toArray, List.getElem_cons_succ, List.getElem_cons_zero, Act.put, List.setIfInBounds_toArray, List.set_cons_zero, List.set_cons_succ]
          refine' wpAnyH_take (i := 11) (oi := _) (v := _) rfl (by kernel_rfl) (by kernel_rfl) (by kernel_rfl) (fun _ _ _ h => h) (Or.inl ⟨by kernel_rfl, ?_⟩) (by assumption) ?_
          rotate_left
          · (intro w hSw; (try dsimp only at hSw); go_simp; try (with_reducible rfl))
          try simp only [List.getElem_toArray, List.getElem_cons_succ, List.getElem_cons_zero, Act.put, List.setIfInBounds_toArray, List.set_cons_zero, List.set_cons_succ]
          refine' wpAnyH_take (i := 12) (oi := _) (v := _) rfl (by kernel_rfl) (by kernel_rfl) (by kernel_rfl) (fun _ _ _ h => h) (Or.inl ⟨by kernel_rfl, ?_⟩) (by assumption) ?_
          rotate_left
          · (intro w hSw; (try dsimp only at hSw); go_simp; try (with_reducible rfl))
          try simp only [List.getElem_toArray, List.getElem_cons_succ, List.getElem_cons_zero, Act.put, List.setIfInBounds_toArray, List.set_cons_zero, List.set_cons_succ]
          refine' wpAnyH_take (i := 13) (oi := _) (v := _) rfl (by kernel_rfl) (by kernel_rfl) (by kernel_rfl) (fun _ _ _ h => h) (Or.inl ⟨by kernel_rfl, ?_⟩) (by assumption) ?_
          rotate_left
          · (intro w hSw; (try dsimp only at hSw); go_simp; try (with_reducible rfl))
          try simp only [List.getElem_toArray, List.getElem_cons_succ, List.getElem_cons_zero, Act.put, List.setIfInBounds_toArray, List.set_cons_zero, List.set_cons_succ]
          refine' wpAnyH_take (i := 14) (oi := _) (v := _) rfl (by kernel_rfl) (by kernel_rfl) (by kernel_rfl) (fun _ _ _ h => h) (Or.inl ⟨by kernel_rfl, ?_⟩) (by assumption) ?_
          rotate_left
          · (intro w hSw; (try dsimp only at hSw); go_simp; try (with_reducible rfl))
          try simp only [List.getElem_toArray, List.getElem_cons_succ, List.getElem_cons_zero, Act.put, List.setIfInBounds_toArray, List.set_cons_zero, List.set_cons_succ]
          refine' wpAnyH_take (i := 15) (oi := _) (v := _) rfl (by kernel_rfl) (by kernel_rfl) (by kernel_rfl) (fun _ _ _ h => h) (Or.inl ⟨by kernel_rfl, ?_⟩) (by assumption) ?_
          rotate_left
          · (intro w hSw; (try dsimp only at hSw); go_simp; try (with_reducible rfl))
          try simp only [List.getElem_toArray, List.getElem_cons_succ, List.getElem_cons_zero, Act.put, List.setIfInBounds_toArray, List.set_cons_zero, List.set_cons_succ]
          refine wpAnyH_ready (rs := [16, 21]) (by kernel_rfl) (by simp) ?_
          refine (AllReadyH.cons (o := _) rfl (fun K hK => ?_) (AllReadyH.cons (o := _) rfl (fun K hK => ?_) AllReadyH.nil))
          · go_simp
            go_at_call 11
            with_reducible refine (CR3.out V17 BV17.out).mono ?_
            rintro e X19 ⟨qw, dw, u1, y1, u2, y2, rfl, DW0, DbX19, UA, UB, FA0, FB0⟩
            have DW := hid (DW0.out.base BV17.out.size)
            have FrA := hid (FA0.out.mono BV17.out.size)
            have FrB := hid (FB0.out.mono BV17.out.size)
            have r20 := hid (row_on r18.out DbX19.out)
            have DX19 := hid (btr BV17.out DbX19.out)
            have UX19 := hid (BV17.out.size)
            (try go_wp2_with fail)
            refine hK.out _ _ ?_ (fun hHeld => ?_)
            · (try dsimp only); exact ⟨row_cell r20.out 0, row_cell r20.out 1, row_cell r20.out 2, row_cell r20.out 3, (HT3.out _ DX19.out).1, (HT3.out _ DX19.out).2.1, (HT3.out _ DX19.out).2.2⟩
            clear hK K
            try simp only [List.getElem_toArray, List.getElem_cons_succ, List.getElem_cons_zero, Act.put, List.setIfInBounds_toArray, List.set_cons_zero, List.set_cons_succ]
            refine' wpAnyH_take (i := 17) (oi := _) (v := _) rfl (by kernel_rfl) (by kernel_rfl) (by kernel_rfl) (fun _ _ _ h => h) (Or.inl ⟨by kernel_rfl, ?_⟩) (by assumption) ?_
            rotate_left
            · (intro w hSw; (try dsimp only at hSw); go_simp; try (with_reducible rfl))
            try simp only [List.getElem_toArray, List.getElem_cons_succ, List.getElem_cons_zero, Act.put, List.setIfInBounds_toArray, List.set_cons_zero, List.set_cons_succ]
            refine' wpAnyH_take (i := 18) (oi := _) (v := _) rfl (by kernel_rfl) (by kernel_rfl) (by kernel_rfl) (fun _ _ _ h => h) (Or.inl ⟨by kernel_rfl, ?_⟩) (by assumption) ?_
            rotate_left
            · (intro w hSw; (try dsimp only at hSw); go_simp; try (with_reducible rfl))
            try simp only [List.getElem_toArray, List.getElem_cons_succ, List.getElem_cons_zero, Act.put, List.setIfInBounds_toArray, List.set_cons_zero, List.set_cons_succ]
            refine' wpAnyH_take (i := 19) (oi := _) (v := _) rfl (by kernel_rfl) (by kernel_rfl) (by kernel_rfl) (fun _ _ _ h => h) (Or.inl ⟨by kernel_rfl, ?_⟩) (by assumption) ?_
            rotate_left
            · (intro w hSw; (try dsimp only at hSw); go_simp; try (with_reducible rfl))
            try simp only [List.getElem_toArray, List.getElem_cons_succ, List.getElem_cons_zero, Act.put, List.setIfInBounds_toArray, List.set_cons_zero, List.set_cons_succ]
            refine' wpAnyH_take (i := 20) (oi := _) (v := _) rfl (by kernel_rfl) (by kernel_rfl) (by kernel_rfl) (fun _ _ _ h => h) (Or.inl ⟨by kernel_rfl, ?_⟩) (by assumption) ?_
            rotate_left
            · (intro w hSw; (try dsimp only at hSw); go_simp; try (with_reducible rfl))
            try simp only [List.getElem_toArray, List.getElem_cons_succ, List.getElem_cons_zero, Act.put, List.setIfInBounds_toArray, List.set_cons_zero, List.set_cons_succ]
            refine wpAnyH_ready (rs := [21]) (by kernel_rfl) (by simp) ?_
            refine (AllReadyH.cons (o := _) rfl (fun K hK => ?_) AllReadyH.nil)
            go_simp
            obtain ⟨X21, hX21⟩ : ∃ X, X19.alloc (.cells #[.int .i64 0, .int .u64 0, .slice none 0 0, .slice none 0 0] 32) = X := ⟨_, rfl⟩
            have bX21 : Below X19.heap.size X19 X21 := by rw [← hX21]; exact ball _ _
            have r23 := hid (row_on r20.out bX21)
            have e24 := hid (DW.out.on bX21)
            have e25 := hid (UA.out.on bX21)
            have e26 := hid (UB.out.on bX21)
            have e27 := hid ((And.intro FrA.out bX21).1)
            have e28 := hid ((And.intro FrB.out bX21).1)
            have DX21 := hid (btr DX19.out bX21)
            have zX21 : X21.heap[X19.heap.size]? = some (.cells #[.int .i64 0, .int .u64 0, .slice none 0 0, .slice none 0 0] 32 (0, 0)) := by rw [← hX21]; exact World.alloc_heap_new _ _
            have yg22 := DX19.out.size
            obtain ⟨g22, hg22⟩ : ∃ g, X19.heap.size = g := ⟨_, rfl⟩
            have n29 : g22 ≠ D := by have := row_lt r20.out; omega
            rw [hg22] at zX21 yg22
            have ZX21 := hid zX21
            rw [hX21, hg22]
            clear hX21 hg22 zX21 bX21
            refine hK.out _ _ ?_ (fun hHeld => ?_)
            · (try dsimp only); exact ⟨row_cell r23.out 0, row_cell r23.out 1, row_cell r23.out 2, row_cell r23.out 3, (HT3.out _ DX21.out).1, (HT3.out _ DX21.out).2.1, (HT3.out _ DX21.out).2.2⟩
            clear hK K
            try simp only [List.getElem_toArray, List.getElem_cons_succ, List.getElem_cons_zero, Act.put, List.setIfInBounds_toArray, List.set_cons_zero, List.set_cons_succ]
            refine wpAnyH_ready (rs := [22]) (by kernel_rfl) (by simp) ?_
            refine (AllReadyH.cons (o := _) rfl (fun K hK => ?_) AllReadyH.nil)
            refine step_store_row (by rfl) 32 (.tmp 14) (.tmp 96) (by rfl) g22 #[.int .i64 d, .int .u64 S, .slice u1 nA y1, .slice u2 nG y2] (by rfl) (by rfl) 32 _ ZX21.out infoRP (by rfl) (by simp [Value.oneCell']) ?_
            obtain ⟨Y30, hY30⟩ : ∃ Y, X21.setRow g22 #[.int .i64 d, .int .u64 S, .slice u1 nA y1, .slice u2 nG y2] = Y := ⟨_, rfl⟩
            have KY30 := hid (show Kp (fun j => j = g22) X21 Y30 from by rw [← hY30]; exact setRow_kp _ _ _)
            have AY30 := hid (show Y30.heap[g22]? = some (.cells #[.int .i64 d, .int .u64 S, .slice u1 nA y1, .slice u2 nG y2] 32 (0, 0)) from by rw [← hY30]; exact setRow_heap X21 g22 _ _ 32 (0, 0) ZX21.out)
            have DY30 := hid (show Below V3.heap.size V3 Y30 from by rw [← hY30]; exact setRow_below DX21.out yg22)
            have r31 := hid (KY30.out.row r23.out (fun e => n29.symm e))
            have e32 := hid (e24.out.kept KY30.out (fun g hg e => by obtain ⟨cu, hc⟩ := e24.out.ty hg; exact row_ne hc ZX21.out (by decide) e))
            have e33 := hid (e25.out.kept KY30.out (fun g hg e => by obtain ⟨cu, hc⟩ := e25.out.ty hg; exact row_ne hc ZX21.out (by decide) e))
            have e34 := hid (e26.out.kept KY30.out (fun g hg e => by obtain ⟨cu, hc⟩ := e26.out.ty hg; exact row_ne hc ZX21.out (by decide) e))
            have e35 := hid (e27.out)
            have e36 := hid (e28.out)
            rw [hY30]
            refine hK.out _ _ ?_ (fun hHeld => ?_)
            · (try dsimp only); exact ⟨row_cell r31.out 0, row_cell r31.out 1, row_cell r31.out 2, row_cell r31.out 3, (HT3.out _ DY30.out).1, (HT3.out _ DY30.out).2.1, (HT3.out _ DY30.out).2.2⟩
            clear hK K hY30
            try simp only [List.getElem_toArray, List.getElem_cons_succ, List.getElem_cons_zero, Act.put, List.setIfInBounds_toArray, List.set_cons_zero, List.set_cons_succ]
            refine' wpAnyH_take (i := 23) (oi := _) (v := _) rfl (by kernel_rfl) (by kernel_rfl) (by kernel_rfl) (fun _ _ _ h => h) (Or.inl ⟨by kernel_rfl, ?_⟩) (by assumption) ?_
            rotate_left
            · (intro w hSw; (try dsimp only at hSw); go_simp; try (with_reducible rfl))
            try simp only [List.getElem_toArray, List.getElem_cons_succ, List.getElem_cons_zero, Act.put, List.setIfInBounds_toArray, List.set_cons_zero, List.set_cons_succ]
            refine' wpAnyH_take (i := 24) (oi := _) (v := _) rfl (by kernel_rfl) (by kernel_rfl) (by kernel_rfl) (fun _ _ _ h => h) (Or.inl ⟨by kernel_rfl, ?_⟩) (by assumption) ?_
            rotate_left
            · (intro w hSw; (try dsimp only at hSw); go_simp; try (with_reducible rfl))
            try simp only [List.getElem_toArray, List.getElem_cons_succ, List.getElem_cons_zero, Act.put, List.setIfInBounds_toArray, List.set_cons_zero, List.set_cons_succ]
            refine wpAnyH_done (by kernel_rfl) ?_ _
            exact ⟨(g22, qw, dw, u1, y1, u2, y2), by kernel_rfl, DY30, AY30, e32, e33, e34, e35, e36, yg22⟩
          · go_simp
            obtain ⟨X37, hX37⟩ : ∃ X, V17.alloc (.cells #[.int .i64 0, .int .u64 0, .slice none 0 0, .slice none 0 0] 32) = X := ⟨_, rfl⟩
            have bX37 : Below V17.heap.size V17 X37 := by rw [← hX37]; exact ball _ _
            have r39 := hid (row_on r18.out bX37)
            have DX37 := hid (btr BV17.out bX37)
            have zX37 : X37.heap[V17.heap.size]? = some (.cells #[.int .i64 0, .int .u64 0, .slice none 0 0, .slice none 0 0] 32 (0, 0)) := by rw [← hX37]; exact World.alloc_heap_new _ _
            have yg38 := BV17.out.size
            obtain ⟨g38, hg38⟩ : ∃ g, V17.heap.size = g := ⟨_, rfl⟩
            have n40 : g38 ≠ D := by have := row_lt r18.out; omega
            rw [hg38] at zX37 yg38
            have ZX37 := hid zX37
            rw [hX37, hg38]
            clear hX37 hg38 zX37 bX37
            refine hK.out _ _ ?_ (fun hHeld => ?_)
            · (try dsimp only); exact ⟨row_cell r39.out 0, row_cell r39.out 1, row_cell r39.out 2, row_cell r39.out 3, (HT3.out _ DX37.out).1, (HT3.out _ DX37.out).2.1, (HT3.out _ DX37.out).2.2⟩
            clear hK K
            try simp only [List.getElem_toArray, List.getElem_cons_succ, List.getElem_cons_zero, Act.put, List.setIfInBounds_toArray, List.set_cons_zero, List.set_cons_succ]
            refine wpAnyH_ready (rs := [16]) (by kernel_rfl) (by simp) ?_
            refine (AllReadyH.cons (o := _) rfl (fun K hK => ?_) AllReadyH.nil)
            go_simp
            go_at_call 11
            with_reducible refine (CR3.out X37 DX37.out).mono ?_
            rintro e X41 ⟨qw, dw, u1, y1, u2, y2, rfl, DW0, DbX41, UA, UB, FA0, FB0⟩
            have DW := hid (DW0.out.base DX37.out.size)
            have FrA := hid (FA0.out.mono DX37.out.size)
            have FrB := hid (FB0.out.mono DX37.out.size)
            have r42 := hid (row_on r39.out DbX41.out)
            have r43 := hid (row_on ZX37.out DbX41.out)
            have DX41 := hid (btr DX37.out DbX41.out)
            have UX41 := hid (DX37.out.size)
            (try go_wp2_with fail)
            refine hK.out _ _ ?_ (fun hHeld => ?_)
            · (try dsimp only); exact ⟨row_cell r42.out 0, row_cell r42.out 1, row_cell r42.out 2, row_cell r42.out 3, (HT3.out _ DX41.out).1, (HT3.out _ DX41.out).2.1, (HT3.out _ DX41.out).2.2⟩
            clear hK K
            try simp only [List.getElem_toArray, List.getElem_cons_succ, List.getElem_cons_zero, Act.put, List.setIfInBounds_toArray, List.set_cons_zero, List.set_cons_succ]
            refine' wpAnyH_take (i := 17) (oi := _) (v := _) rfl (by kernel_rfl) (by kernel_rfl) (by kernel_rfl) (fun _ _ _ h => h) (Or.inl ⟨by kernel_rfl, ?_⟩) (by assumption) ?_
            rotate_left
            · (intro w hSw; (try dsimp only at hSw); go_simp; try (with_reducible rfl))
            try simp only [List.getElem_toArray, List.getElem_cons_succ, List.getElem_cons_zero, Act.put, List.setIfInBounds_toArray, List.set_cons_zero, List.set_cons_succ]
            refine' wpAnyH_take (i := 18) (oi := _) (v := _) rfl (by kernel_rfl) (by kernel_rfl) (by kernel_rfl) (fun _ _ _ h => h) (Or.inl ⟨by kernel_rfl, ?_⟩) (by assumption) ?_
            rotate_left
            · (intro w hSw; (try dsimp only at hSw); go_simp; try (with_reducible rfl))
            try simp only [List.getElem_toArray, List.getElem_cons_succ, List.getElem_cons_zero, Act.put, List.setIfInBounds_toArray, List.set_cons_zero, List.set_cons_succ]
            refine' wpAnyH_take (i := 19) (oi := _) (v := _) rfl (by kernel_rfl) (by kernel_rfl) (by kernel_rfl) (fun _ _ _ h => h) (Or.inl ⟨by kernel_rfl, ?_⟩) (by assumption) ?_
            rotate_left
            · (intro w hSw; (try dsimp only at hSw); go_simp; try (with_reducible rfl))
            try simp only [List.getElem_toArray, List.getElem_cons_succ, List.getElem_cons_zero, Act.put, List.setIfInBounds_toArray, List.set_cons_zero, List.set_cons_succ]
            refine' wpAnyH_take (i := 20) (oi := _) (v := _) rfl (by kernel_rfl) (by kernel_rfl) (by kernel_rfl) (fun _ _ _ h => h) (Or.inl ⟨by kernel_rfl, ?_⟩) (by assumption) ?_
            rotate_left
            · (intro w hSw; (try dsimp only at hSw); go_simp; try (with_reducible rfl))
            try simp only [List.getElem_toArray, List.getElem_cons_succ, List.getElem_cons_zero, Act.put, List.setIfInBounds_toArray, List.set_cons_zero, List.set_cons_succ]
            refine wpAnyH_ready (rs := [22]) (by kernel_rfl) (by simp) ?_
            refine (AllReadyH.cons (o := _) rfl (fun K hK => ?_) AllReadyH.nil)
            refine step_store_row (by rfl) 32 (.tmp 14) (.tmp 96) (by rfl) g38 #[.int .i64 d, .int .u64 S, .slice u1 nA y1, .slice u2 nG y2] (by rfl) (by rfl) 32 _ r43.out infoRP (by rfl) (by simp [Value.oneCell']) ?_
            obtain ⟨Y44, hY44⟩ : ∃ Y, X41.setRow g38 #[.int .i64 d, .int .u64 S, .slice u1 nA y1, .slice u2 nG y2] = Y := ⟨_, rfl⟩
            have KY44 := hid (show Kp (fun j => j = g38) X41 Y44 from by rw [← hY44]; exact setRow_kp _ _ _)
            have AY44 := hid (show Y44.heap[g38]? = some (.cells #[.int .i64 d, .int .u64 S, .slice u1 nA y1, .slice u2 nG y2] 32 (0, 0)) from by rw [← hY44]; exact setRow_heap X41 g38 _ _ 32 (0, 0) r43.out)
            have DY44 := hid (show Below V3.heap.size V3 Y44 from by rw [← hY44]; exact setRow_below DX41.out yg38)
            have r45 := hid (KY44.out.row r42.out (fun e => n40.symm e))
            have e46 := hid (DW.out.kept KY44.out (fun g hg e => by obtain ⟨cu, hc⟩ := DW.out.ty hg; exact row_ne hc r43.out (by decide) e))
            have e47 := hid (UA.out.kept KY44.out (fun g hg e => by obtain ⟨cu, hc⟩ := UA.out.ty hg; exact row_ne hc r43.out (by decide) e))
            have e48 := hid (UB.out.kept KY44.out (fun g hg e => by obtain ⟨cu, hc⟩ := UB.out.ty hg; exact row_ne hc r43.out (by decide) e))
            have e49 := hid (FrA.out)
            have e50 := hid (FrB.out)
            rw [hY44]
            refine hK.out _ _ ?_ (fun hHeld => ?_)
            · (try dsimp only); exact ⟨row_cell r45.out 0, row_cell r45.out 1, row_cell r45.out 2, row_cell r45.out 3, (HT3.out _ DY44.out).1, (HT3.out _ DY44.out).2.1, (HT3.out _ DY44.out).2.2⟩
            clear hK K hY44
            try simp only [List.getElem_toArray, List.getElem_cons_succ, List.getElem_cons_zero, Act.put, List.setIfInBounds_toArray, List.set_cons_zero, List.set_cons_succ]
            refine' wpAnyH_take (i := 23) (oi := _) (v := _) rfl (by kernel_rfl) (by kernel_rfl) (by kernel_rfl) (fun _ _ _ h => h) (Or.inl ⟨by kernel_rfl, ?_⟩) (by assumption) ?_
            rotate_left
            · (intro w hSw; (try dsimp only at hSw); go_simp; try (with_reducible rfl))
            try simp only [List.getElem_toArray, List.getElem_cons_succ, List.getElem_cons_zero, Act.put, List.setIfInBounds_toArray, List.set_cons_zero, List.set_cons_succ]
            refine' wpAnyH_take (i := 24) (oi := _) (v := _) rfl (by kernel_rfl) (by kernel_rfl) (by kernel_rfl) (fun _ _ _ h => h) (Or.inl ⟨by kernel_rfl, ?_⟩) (by assumption) ?_
            rotate_left
            · (intro w hSw; (try dsimp only at hSw); go_simp; try (with_reducible rfl))
            try simp only [List.getElem_toArray, List.getElem_cons_succ, List.getElem_cons_zero, Act.put, List.setIfInBounds_toArray, List.set_cons_zero, List.set_cons_succ]
            refine wpAnyH_done (by kernel_rfl) ?_ _
            exact ⟨(g38, qw, dw, u1, y1, u2, y2), by kernel_rfl, DY44, AY44, e46, e47, e48, e49, e50, yg38⟩
        · rintro ⟨P14, qw, dw, u1, y1, u2, y2⟩ V4 ⟨BV4, H14, DW4, UA4, UB4, FA4, FB4, LO14⟩
          dsimp only at H14 DW4 UA4 UB4 FA4 FB4 LO14
          try simp only [List.getElem_toArray, List.getElem_cons_succ, List.getElem_cons_zero, Act.put, List.setIfInBounds_toArray, List.set_cons_zero, List.set_cons_succ]
          have KB4 := hid (btr KB3.out BV4.out)
          have HDR4 := hid (row_on HDR.out BV4.out)
          have HPI4 := hid (row_on (KP3.out.row HPI2.out (fun e => row_ne HPI2.out LS2.out.pb.row (by decide) e)) BV4.out)
          have LA4 := hid ((LA2.out.kept KP3.out (fun g hg e => by obtain ⟨cu, hc⟩ := LA2.out.ty hg; exact row_ne hc LS2.out.pb.row (by decide) e)).on BV4.out)
          have LB4 := hid ((LB2.out.kept KP3.out (fun g hg e => by obtain ⟨cu, hc⟩ := LB2.out.ty hg; exact row_ne hc LS2.out.pb.row (by decide) e)).on BV4.out)
          have TL4 := hid (TL3.out.on BV4.out)
          have PB4 := hid (PB3.out.on BV4.out)
          have SA4 := hid (SA3.out.on BV4.out)
          have SG4 := hid (SG3.out.on BV4.out)
          obtain ⟨V5, hV5⟩ : ∃ V5, V4.setRow D #[.int .i64 d, .int .u64 S, .slice u1 nA y1, .slice u2 nG y2] = V5 := ⟨_, rfl⟩
          have K5 := hid (show Kp (fun j => j = D) V4 V5 from by rw [← hV5]; exact setRow_kp _ _ _)
          have LO5 := hid (show ∀ (b : Nat) (p : Option Addr) (c : Nat) (l : List Lv), Lo b V4 p c l → Lo b V5 p c l from fun _ _ _ _ h => h.kept K5.out (fun g hg e => by obtain ⟨cu, hc⟩ := h.ty hg; exact row_ne hc HDR4.out (by decide) e))
          have LS5 := hid (show Ls w B D d S s1 g1 A s2 g2 G u1 y1 u2 y2 V5 from by
            have a1 := LO5.out _ _ _ _ SA4.out
            have a2 := LO5.out _ _ _ _ SG4.out
            refine ⟨⟨K5.out.row PB4.out.row (fun e => row_ne PB4.out.row HDR4.out (by decide) e), a1.rl, a2.rl, PB4.out.k1, PB4.out.k2, PB4.out.n1, PB4.out.n2, PB4.out.d1, PB4.out.d2, PB4.out.sq⟩, a1, a2, ?_, LO5.out _ _ _ _ UA4.out, LO5.out _ _ _ _ UB4.out, KB4.out.trans (K5.out.below KB4.out.size (fun g hg e => by have := HC.out.lD; have e' : g = D := e; omega)), HC.out.lB, HC.out.lD⟩
            rw [← hV5, HNA.out, HNG.out]
            exact setRow_heap _ _ _ _ 32 (0, 0) HDR4.out)
          have HPI5 := hid (K5.out.row HPI4.out (fun e => row_ne HPI4.out HDR4.out (by decide) e))
          have LA5 := hid (LO5.out _ _ _ _ LA4.out)
          have LB5 := hid (LO5.out _ _ _ _ LB4.out)
          have TL5 := hid (TL4.out.kept K5.out (fun g hg e => by obtain ⟨cu, hc⟩ := TL4.out.ty hg; exact row_ne hc HDR4.out (by decide) e))
          have DW5 := hid (DW4.out.kept K5.out (fun g hg e => by obtain ⟨cu, hc⟩ := DW4.out.ty hg; exact row_ne hc HDR4.out (by decide) e))
          have HV5 := hid hV5
          obtain ⟨j0, j1, j2, j3⟩ := row4 H14.out
          have AI := hid (show (Try.prog.info? 32).map (·.size) = some (#[.int .i64 d, .int .u64 S, .slice u1 nA y1, .slice u2 nG y2] : Array Value).size from infoRP)
          have AA := hid (show (#[.int .i64 d, .int .u64 S, .slice u1 nA y1, .slice u2 nG y2] : Array Value).all (·.oneCell') = true from by simp [Value.oneCell'])
          clear hV5
          go_upto_region 13 with (refine wpList_store_row (by rfl) 32 (.tmp 7) (.tmp 99) (by rfl) D #[.int .i64 d, .int .u64 S, .slice u1 nA y1, .slice u2 nG y2] (by rfl) (by rfl) 32 _ HDR4.out AI.out (by rfl) AA.out ?_)
          rw [HV5.out]
          have R25 := hid (show V2.heap.size ≤ V5.heap.size from Nat.le_trans KP3.out.size (Nat.le_trans BV4.out.size K5.out.size))
          have R23 := hid KP3.out.size
          clear HV5 AI AA j0 j1 j2 j3 H14 LO14 HDR4 LA4 LB4 TL4 PB4 SA4 SG4 UA4 UB4 DW4 LO5 K5 HPI4 KB4 BV4 HDR X13 X23 CR3 HT3 KB3 TL3 PB3 SA3 SG3 CP KP3
          have CD := hid (show ∀ m, Calls Try.prog 12 #[.slice q5 nM d5, .slice qw nM dw] (V5.drewN m) fun e w' => e = .returned (.bool true) ∧ ∃ k, w' = V5.drewN k from fun m => by
            have := sameData_same _ _ q5 qw d5 dw M (V5.drewN m) (TL5.out.on (bdrew _ _)) (DW5.out.on (bdrew _ _))
            rw [HNM.out] at this
            exact this.mono (fun e w' hh => by obtain ⟨h1, k, rfl⟩ := hh; exact ⟨h1, _, drew_add _ _ _⟩))
          have CB1 := hid (show ∀ m, Calls Try.prog 13 #[.slice q1 nb f1, .slice z.pb nb z.cb] (V5.drewN m) fun e w' => e = .returned (.bool true) ∧ ∃ k, w' = V5.drewN k from fun m => by
            have := sameLevels_same q1 z.pb f1 z.cb z.lb (V5.drewN m) (LA5.out.rl.on (bdrew _ _)) ((HKK.out.hb.on LS5.out.b).on (bdrew _ _))
            rw [HNb.out] at this
            exact this.mono (fun e w' hh => by obtain ⟨h1, k, rfl⟩ := hh; exact ⟨h1, _, drew_add _ _ _⟩))
          have CB2 := hid (show ∀ m, Calls Try.prog 13 #[.slice q2 ns f2, .slice z.ps ns z.cs] (V5.drewN m) fun e w' => e = .returned (.bool true) ∧ ∃ k, w' = V5.drewN k from fun m => by
            have := sameLevels_same q2 z.ps f2 z.cs z.ls (V5.drewN m) (LB5.out.rl.on (bdrew _ _)) ((HKK.out.hs.on LS5.out.b).on (bdrew _ _))
            rw [HNs.out] at this
            exact this.mono (fun e w' hh => by obtain ⟨h1, k, rfl⟩ := hh; exact ⟨h1, _, drew_add _ _ _⟩))
          obtain ⟨k0, k1, k2⟩ := row3 HPI5.out
          obtain ⟨x0, x1, x2⟩ := HTC.out _ LS5.out.b
          have qE : (E != E) = false := by simp
          go_quiet (first | (go_at_call 12; refine (CD.out _).mono ?_; rintro e1 u1 ⟨rfl, k, rfl⟩; exact ⟨rfl, _, rfl⟩) | (go_at_call 13; with_reducible refine (CB1.out _).mono ?_; rintro e1 u1 ⟨rfl, k, rfl⟩; exact ⟨rfl, _, rfl⟩) | (go_at_call 13; with_reducible refine (CB2.out _).mono ?_; rintro e1 u1 ⟨rfl, k, rfl⟩; exact ⟨rfl, _, rfl⟩))
          go_upto_region 15 with fail
          have RNG := hid (show ∀ g, OfP q1 g ∨ OfP q2 g → wr.heap.size ≤ g ∧ g < V2.heap.size from fun g hg => by
            rcases hg with h | h
            · exact LA2.out.ge h
            · exact LB2.out.ge h)
          have W0s := hid HC.out.b.size
          have OLD := hid (show ∀ g, (OfP p1 g ∨ OfP p2 g ∨ OfP r1 g ∨ OfP r2 g) → g < wr.heap.size from fun g hg => by
            rcases hg with h | h | h | h
            · exact (HC.out.o1.ge h).2
            · exact (HC.out.o2.ge h).2
            · exact (HC.out.x1.ge h).2
            · exact (HC.out.x2.ge h).2)
          have bbb : nb * 24 + 24 ≤ 140737488355328 := by rw [← HNb.out]; exact HKK.out.bb
          have bss : ns * 24 + 24 ≤ 140737488355328 := by rw [← HNs.out]; exact HKK.out.bs
          have CW := hid (show ∀ m, Calls Try.prog 14 #[.agg #[.int .u64 0, .slice q1 nb f1, .slice q2 ns f2]] (V5.drewN m) fun e w' => e = .returned (.tuple #[]) ∧ Hid (Wd w B D d S s1 g1 A s2 g2 G u1 y1 u2 y2 V2.heap.size q5 nM d5 w') from fun m => by
            have la := LA5.out.on (bdrew V5 m)
            have lb := LB5.out.on (bdrew V5 m)
            unfold Lo at la lb
            rw [HNb.out] at la
            rw [HNs.out] at lb
            have ls := LS5.out.on (bdrew V5 m)
            have tl := TL5.out.on (bdrew V5 m)
            refine (wipe_any 0 wr.heap.size q1 q2 nb ns f1 f2 _ _ (V5.drewN m) la lb AP.out bbb bss (Nat.le_trans BV12.out.size (Nat.le_trans R25.out (bdrew V5 m).size))).mono ?_
            rintro e w' ⟨rfl, hk⟩
            refine ⟨rfl, ?_⟩
            have lev : ∀ g, (OfP q1 g ∨ OfP q2 g) → ∃ cu, (V5.drewN m).heap[g]? = some (.cells cu 89 (0, 0)) := fun g hg => by
              rcases hg with h | h
              · subst h; exact own_ty la rfl
              · subst h; exact own_ty lb rfl
            refine ⟨ls.keep hk (fun h => ?_) (fun h => ?_) (fun g hg h => ?_) (fun g hg h => ?_) (fun g hg h => ?_) (fun g hg h => ?_) (fun g h => ?_), ?_, ?_⟩
            · obtain ⟨cu, hc⟩ := lev B h; exact row_ne hc ls.pb.row (by decide) rfl
            · obtain ⟨cu, hc⟩ := lev D h; exact row_ne hc ls.dr (by decide) rfl
            · have a := RNG.out g h
              rcases FA3.out g hg with x | x
              · have := OLD.out g (.inl x); omega
              · omega
            · have a := RNG.out g h
              rcases FG3.out g hg with x | x
              · have := OLD.out g (.inr (.inl x)); omega
              · omega
            · have a := RNG.out g h
              rcases FA4.out g hg with x | x
              · have := OLD.out g (.inr (.inr (.inl x))); omega
              · have := R23.out; omega
            · have a := RNG.out g h
              rcases FB4.out g hg with x | x
              · have := OLD.out g (.inr (.inr (.inr x))); omega
              · have := R23.out; omega
            · have a := RNG.out g h
              have := W0s.out; omega
            · have hh := tl.kept hk (fun g hg h => by obtain ⟨c1, h1⟩ := tl.ty hg; obtain ⟨c2, h2⟩ := lev g h; exact row_ne h1 h2 (by decide) rfl)
              unfold Dw at hh
              rw [HNM.out] at hh
              exact ⟨_, hh⟩
            · have := BV12.out.size; have := W0s.out; omega)
          clear k0 k1 k2 x0 x1 x2
          obtain ⟨nq', hnq'⟩ : ∃ m, V5.drewN m = V5.drewN m := ⟨0, rfl⟩
          clear hnq' nq'
          obtain ⟨k0, k1, k2⟩ := row3 HPI5.out
          go_upto_region 16 with (go_at_call 14; with_reducible refine (CW.out _).mono ?_; rintro e V7 ⟨rfl, WD7⟩)
          clear k0 k1 k2 CW CD CB1 CB2 RNG OLD FA3 FG3 FA4 FB4 TL5 DW5 LA5 LB5 HPI5 LS5 LS2 LA2 LB2 HPI2 AP HPI LA LB HRe BV1 BV2 HTR
          go_wp2
          go_loopw [17] (fun iv wx => ∃ k : Nat, k ≤ nM ∧ iv = .int .i64 k ∧ Hid (Wd w B D d S s1 g1 A s2 g2 G u1 y1 u2 y2 V2.heap.size q5 nM d5 wx)) (fun iv _ => nM - (intOf iv).toNat)
          case atStart => exact ⟨0, by omega, rfl, WD7.out⟩
          case round =>
            obtain ⟨k, hk, rfl, HX⟩ := hrel
            by_cases hkl : k < nM
            · obtain ⟨zs, hzs⟩ := HX.out.o
              obtain ⟨g, cur, eq, hg1, hg2, hg3, hg4, hg5⟩ := own_at hzs (by omega)
              subst eq
              have ll : ∀ j, j < 6 → k * 6 + j < cur.size := fun j hj => by omega
              have gc : ∀ j, j < 6 → ∃ u, wr.cell? ⟨g, k * 6 + j, none⟩ = some u := fun j hj => ⟨_, by rw [row_cell hg2]; exact Array.getElem?_eq_getElem (ll j hj)⟩
              obtain ⟨v0, z0⟩ := gc 0 (by omega)
              obtain ⟨v1, z1⟩ := gc 1 (by omega)
              obtain ⟨v2, z2⟩ := gc 2 (by omega)
              obtain ⟨v3, z3⟩ := gc 3 (by omega)
              obtain ⟨v4, z4⟩ := gc 4 (by omega)
              obtain ⟨v5, z5⟩ := gc 5 (by omega)
              simp only [Nat.add_zero] at z0
              have t0 := row_frz hg2 (k * 6)
              have t1 := row_frz hg2 (k * 6 + 1)
              have t2 := row_frz hg2 (k * 6 + 2)
              have t3 := row_frz hg2 (k * 6 + 3)
              have t4 := row_frz hg2 (k * 6 + 4)
              have t5 := row_frz hg2 (k * 6 + 5)
              have m0 : (0 : Int) ≤ (k : Int) := by omega
              have m1 : (k : Int) < (nM : Int) := by omega
              have NX := hid ((((((HX.out.set (OfP.mk g) (show k * 6 < nM * 6 by omega) (.int .u64 4715)).set (OfP.mk g) (show k * 6 + 1 < nM * 6 by omega) (.int .i64 0)).set (OfP.mk g) (show k * 6 + 2 < nM * 6 by omega) (.int .i64 0)).set (OfP.mk g) (show k * 6 + 3 < nM * 6 by omega) (.int .i64 0)).set (OfP.mk g) (show k * 6 + 4 < nM * 6 by omega) (.int .u64 0)).set (OfP.mk g) (show k * 6 + 5 < nM * 6 by omega) (.int .i64 0))
              clear hzs hg1 hg2 hg5 ll gc
              unfold maxLen at hg4
              go_wp2
              go_roundw
              case rel => exact ⟨k + 1, by omega, by go_num, NX.out⟩
              case measure => simp [intOf]; omega
            · have LSa := hid HX.out.s
              have CPic := hid (fun U (hU : Ls w B D d S s1 g1 A s2 g2 G u1 y1 u2 y2 U) => pictureP_any B d S s1 s2 g1 g2 A G U hU.pb.row hU.pb.r1 hU.pb.r2 (by have := hU.pb.n1; omega) (by have := hU.pb.n2; omega))
              rw [HNA.out, HNG.out] at CPic
              go_upto_region 21 with (go_at_call 15; with_reducible refine (CPic.out _ LSa.out).mono ?_; rintro e V9 ⟨a1, b1, a2, b2, rfl, h1, h2, h3, h4⟩; have PA9 := hid h1; have PG9 := hid h2; have AP9 := hid h3; have BV9 := hid h4; clear h1 h2 h3 h4)
              obtain ⟨V10, hV10⟩ : ∃ V, V9.alloc (.cells #[.int .u64 S, .slice a1 nA b1, .slice a2 nG b2] 30) = V := ⟨_, rfl⟩
              obtain ⟨P18, hP18⟩ : ∃ P, V9.heap.size = P := ⟨_, rfl⟩
              have HP18 := hid (show V10.heap[P18]? = some (.cells #[.int .u64 S, .slice a1 nA b1, .slice a2 nG b2] 30 (0, 0)) from by rw [← hV10, ← hP18]; exact World.alloc_heap_new _ _)
              have BV10 := hid (show Below V9.heap.size V9 V10 from by rw [← hV10]; exact ball _ _)
              have LS10 := hid ((LSa.out.on BV9.out).on BV10.out)
              have PA10 := hid (PA9.out.on BV10.out)
              have PG10 := hid (PG9.out.on BV10.out)
              have BA10 := hid (btr BV9.out BV10.out)
              rw [hV10, hP18]
              clear hV10 hP18
              have SP := hid (samePicture_same S a1 a2 u1 u2 b1 b2 y1 y2 A G V10 PA10.out.rl PG10.out.rl LS10.out.x1.rl LS10.out.x2.rl)
              rw [HNA.out, HNG.out] at SP
              have HD10 := hid LS10.out.dr
              rw [HNA.out, HNG.out] at HD10
              obtain ⟨j0, j1, j2, j3⟩ := row4 HD10.out
              obtain ⟨k0, k1, k2⟩ := row3 HP18.out
              go_upto_region 23 with (go_at_call 16; with_reducible refine (SP.out).mono ?_; rintro e V11 ⟨rfl, hb⟩; have BV11 := hid hb; clear hb)
              have LS11 := hid (LS10.out.on BV11.out)
              have PA11 := hid (PA10.out.on BV11.out)
              have PG11 := hid (PG10.out.on BV11.out)
              clear j0 j1 j2 j3 k0 k1 k2
              obtain ⟨k0, k1, k2⟩ := row3 (row_on HP18.out BV11.out)
              have BIG := hid (btr BA10.out BV11.out)
              have nA64 : nA ≤ 64 := by rw [← HNA.out]; exact LSa.out.pb.n1
              have nG64 : nG ≤ 64 := by rw [← HNG.out]; exact LSa.out.pb.n2
              have CW2 := hid (show Calls Try.prog 14 #[.agg #[.int .u64 S, .slice a1 nA b1, .slice a2 nG b2]] V11 fun e w' => e = .returned (.tuple #[]) ∧ Hid (Ls w B D d S s1 g1 A s2 g2 G u1 y1 u2 y2 w') from by
                have la := PA11.out
                have lb := PG11.out
                unfold Lo at la lb
                rw [HNA.out] at la
                rw [HNG.out] at lb
                refine (wipe_any S _ a1 a2 nA nG b1 b2 _ _ V11 la lb AP9.out (by omega) (by omega) BIG.out.size).mono ?_
                rintro e w' ⟨rfl, hk⟩
                refine ⟨rfl, ?_⟩
                have rng : ∀ g, (OfP a1 g ∨ OfP a2 g) → wr.heap.size ≤ g := fun g hg => by
                  rcases hg with h | h
                  · exact (PA11.out.ge h).1
                  · exact (PG11.out.ge h).1
                refine LS11.out.keep hk (fun h => ?_) (fun h => ?_) (fun g hg h => ?_) (fun g hg h => ?_) (fun g hg h => ?_) (fun g hg h => ?_) (fun g h => ?_)
                · have := rng B h; have := row_lt LSa.out.pb.row; omega
                · have := rng D h; have := row_lt LSa.out.dr; omega
                · have := rng g h; have := (LSa.out.o1.ge hg).2; omega
                · have := rng g h; have := (LSa.out.o2.ge hg).2; omega
                · have := rng g h; have := (LSa.out.x1.ge hg).2; omega
                · have := rng g h; have := (LSa.out.x2.ge hg).2; omega
                · have := rng g h; have := LSa.out.b.size; omega)
              go_upto_region 24 with (go_at_call 14; with_reducible refine (CW2.out).mono ?_; rintro e V12 ⟨rfl, LS12⟩)
              clear k0 k1 k2 CW2
              have HD12 := hid LS12.out.dr
              rw [HNA.out, HNG.out] at HD12
              have HDD := hid (show ∀ U, Below V12.heap.size V12 U → U.cell? ⟨D, 1, none⟩ = some (.int .u64 S) ∧ U.cell? ⟨D, 2, none⟩ = some (.slice u1 nA y1) ∧ U.cell? ⟨D, 3, none⟩ = some (.slice u2 nG y2) from fun U hU => by
                have := row4 (row_on HD12.out hU)
                exact ⟨this.2.1, this.2.2.1, this.2.2.2⟩)
              obtain ⟨j1, j2, j3⟩ := HDD.out V12 (Below.refl _ _)
              have SP2 := hid (fun U (hU : Below V12.heap.size V12 U) (a1 : Option Addr) (b1 : Nat) (a2 : Option Addr) (b2 : Nat) (h1 : Lo V12.heap.size U a1 b1 A) (h2 : Lo V12.heap.size U a2 b2 G) => on_b (samePicture_same S a1 a2 u1 u2 b1 b2 y1 y2 A G U h1.rl h2.rl (LS12.out.x1.on hU).rl (LS12.out.x2.on hU).rl) hU)
              rw [HNA.out, HNG.out] at SP2
              have CPd := hid (show Calls Try.prog 15 #[.pointer (some ⟨B, 0, none⟩)] V12.drew fun e w' => ∃ a1 b1 a2 b2, e = .returned (.agg #[.int .u64 S, .slice a1 nA b1, .slice a2 nG b2]) ∧ Hid (Lo V12.heap.size w' a1 b1 A) ∧ Hid (Lo V12.heap.size w' a2 b2 G) ∧ Hid (Below V12.heap.size V12 w') from (CPic.out V12.drew (LS12.out.on (bdrew1 _))).mono (fun e w' hh => by
                obtain ⟨a1, b1, a2, b2, h1, h2, h3, h4, h5⟩ := hh
                exact ⟨a1, b1, a2, b2, h1, h2, h3, btr (bdrew1 V12) h5⟩))
              go_region_held3 (fun U => U.cell? ⟨D, 1, none⟩ = some (.int .u64 S) ∧ U.cell? ⟨D, 2, none⟩ = some (.slice u1 nA y1) ∧ U.cell? ⟨D, 3, none⟩ = some (.slice u2 nG y2)) (go_keep) (first | (go_at_call 15; with_reducible refine (CPd.out).mono ?_; rintro e V13 ⟨a3, b3, a4, b4, rfl, PA13, PG13, BV13⟩; obtain ⟨j1, j2, j3⟩ := HDD.out V13 BV13.out) | (go_at_call 16; with_reducible refine (SP2.out V13 BV13.out a3 b3 a4 b4 PA13.out PG13.out).mono ?_; rintro e V14 ⟨rfl, BV14⟩; obtain ⟨j1, j2, j3⟩ := HDD.out V14 BV14.out))
              go_wp2
              go_roundw
              case rel => exact ⟨i + 1, S, s1, g1, A, s2, g2, G, u1, y1, u2, y2, by omega, by go_num, LS12.out.on BV14.out⟩
              case measure => simp [intOf]; omega
    · go_wp2
      go_ret
      exact ⟨rfl, HC.out.b⟩
theorem publishes_walk (d : Int) (q : Option Addr) (cap : Nat) (l : List Tu) (w : World) (h : Tz w q l) (hm : l.length ≤ maxLen) :
    Calls Try.prog 3 #[.int .i64 d, .slice q l.length cap] w fun e w' => e = .returned (.bool true) ∧ Below w.heap.size w w' := by
  by_cases hd : 1 ≤ d ∧ d ≤ 64
  · obtain ⟨k, rfl⟩ : ∃ k : Nat, d = (k : Int) := ⟨d.toNat, by omega⟩
    exact publishes_ok k (by omega) (by omega) q cap l w h hm
  · exact publishes_no d hd q cap _ w hm
end Go.Proofs.Ytiphgfghdbmlcaa
