/-
  Two lists of fills compared; the document's Uncross where nothing is traded.
-/
import Derived.Test.YtnmkfdndfhefiaaGreatGe
import Derived.Test.YtnmkfdndfhefiaaGreatQuJ
namespace Go.Proofs.YtnmkfdndfhefiaaGreat
open Go.RowKit Go.Deep Go.Shelf
set_option linter.unusedVariables false
set_option linter.unusedSimpArgs false
set_option maxHeartbeats 8000000
set_option maxRecDepth 100000
theorem frs_get {l : List Fi} {i j : Nat} (hi : i < l.length) (hj : j < 4) : (frs l)[i * 4 + j]? = (frow l[i])[j]? := by
  induction l generalizing i with
  | nil => simp at hi
  | cons x l ih =>
    have hx : (frow x).length = 4 := rfl
    cases i with
    | zero =>
      simp only [frs, List.flatMap_cons, Nat.zero_mul, Nat.zero_add, List.getElem_cons_zero]
      rw [List.getElem?_append_left (by rw [hx]; omega)]
    | succ i =>
      have := ih (i := i) (by simpa using hi)
      simp only [frs, List.flatMap_cons, List.getElem_cons_succ] at this ⊢
      rw [List.getElem?_append_right (by rw [hx]; omega), hx, show (i + 1) * 4 + j - 4 = i * 4 + j by omega]
      exact this
/-- fills in a slice of one's own. -/
def Fz (w : World) (p : Option Addr) (c : Nat) (F : List Fi) : Prop := w.ownsRow 0 67 4 (.slice p F.length c) F.length (frs F)
theorem Fz.on {w w' : World} {p : Option Addr} {c : Nat} {F : List Fi} (h : Fz w p c F) (hb : Below w.heap.size w w') : Fz w' p c F := own_on h hb
theorem Fz.cells {w : World} {p : Option Addr} {c : Nat} {F : List Fi} (h : Fz w p c F) {i : Nat} (hi : i < F.length) : ∃ g, p = some ⟨g, 0, none⟩ ∧ w.cell? ⟨g, i * 4, none⟩ = some (.int .u64 F[i].bu) ∧ w.cell? ⟨g, i * 4 + 1, none⟩ = some (.int .u64 F[i].se) ∧ w.cell? ⟨g, i * 4 + 2, none⟩ = some (.int .i64 F[i].pr) ∧ w.cell? ⟨g, i * 4 + 3, none⟩ = some (.int .u64 F[i].qt) := by
  obtain ⟨_, ⟨e, e2⟩ | ⟨g, c', cur, e, r1, r2, r3, r4, r5, r6⟩⟩ := h
  · omega
  · obtain ⟨rfl, _, rfl⟩ := Value.slice.inj e
    have go : ∀ j, j < 4 → w.cell? ⟨g, i * 4 + j, none⟩ = (frow F[i])[j]? := fun j hj => by
      have := congrArg (fun z => z[i * 4 + j]?) r6
      have hlt : i * 4 + j < F.length * 4 := by omega
      simp only [List.getElem?_take, hlt, if_true, Array.getElem?_toList] at this
      rw [row_cell r2, this, frs_get hi hj]
    exact ⟨g, rfl, go 0 (by omega), go 1 (by omega), go 2 (by omega), go 3 (by omega)⟩
theorem fills_same (p p2 : Option Addr) (c c2 : Nat) (l : List Fi) (w : World) (h : Fz w p c l) (h2 : Fz w p2 c2 l) (hm : l.length ≤ 8192) :
    Calls Tryz.prog 21 #[.slice p l.length c, .slice p2 l.length c2] w fun e w' => e = .returned (.bool true) ∧ Below w.heap.size w w' := by
  obtain ⟨n, hn⟩ : ∃ n, l.length = n := ⟨_, rfl⟩
  have HN := hid hn
  have H1 := hid h
  have H2 := hid h2
  rw [hn] at hm ⊢
  clear hn h h2
  go_enter Tryz.func21, Tryz.ntmps21
  go_wp2_with fail
  go_loopw [5] (fun iv wr => ∃ i : Nat, i ≤ n ∧ iv = .int .i64 i ∧ Hid (Below w.heap.size w wr)) (fun iv _ => n - (intOf iv).toNat)
  case atStart => exact ⟨0, Nat.zero_le _, rfl, hid (Below.refl _ _)⟩
  case round =>
    obtain ⟨i, hin, rfl, HB⟩ := hrel
    by_cases hlt : i < n
    · have hil : i < l.length := by rw [HN.out]; exact hlt
      obtain ⟨g, hp, a0, a1, a2, a3⟩ := (H1.out.on HB.out).cells hil
      obtain ⟨g2, hp2, b0, b1, b2, b3⟩ := (H2.out.on HB.out).cells hil
      subst hp
      subst hp2
      obtain ⟨z, hz⟩ : ∃ z, l[i] = z := ⟨_, rfl⟩
      rw [hz] at a0 a1 a2 a3 b0 b1 b2 b3
      have i0' : (0 : Int) ≤ (i : Int) := by omega
      have i1 : (i : Int) < (n : Int) := by omega
      clear hz
      go_wp2_with fail
      go_region
      go_wp2
      go_roundw
      case rel => exact ⟨i + 1, by omega, by go_num, hid (btr HB.out (bdrew1 _))⟩
      case measure => simp [intOf]; omega
    · obtain rfl : i = n := by omega
      go_wp2
      go_ret
      exact ⟨rfl, HB.out⟩
theorem runcross_no (r m : Int) (p : Option Addr) (c : Nat) (L : List It) (w : World) (h : Li w p c L) (hk : Lk L) (hr : isP r = true) (hq : dqt r (dcs r L) = none) : Calls Tryz.prog 20 #[.agg #[.int .i64 r, .int .i64 m, .slice p L.length c]] w fun e w' => e = .returned (.tuple #[.agg #[.int .i64 r, .int .i64 m, .slice p L.length c], .slice none 0 0, .agg #[.int .i64 0, .int .u64 0, .int .u64 0, .int .i64 0, .int .i64 0], .bool false]) ∧ Below w.heap.size w w' := by
  have CQ := hid (fun (U : World) (hU : Below w.heap.size w U) => rquote_any r m p c L U (h.on hU) hk hr)
  rw [hq] at CQ
  obtain ⟨n, hnn⟩ : ∃ n, L.length = n := ⟨_, rfl⟩
  rw [hnn] at CQ ⊢
  obtain ⟨R, hR⟩ : ∃ R, w.heap.size = R := ⟨_, rfl⟩
  have HRR := hid hR
  obtain ⟨U1, hU1⟩ : ∃ U, w.alloc (.cells #[.int .i64 r, .int .i64 m, .slice p n c] 29) = U := ⟨_, rfl⟩
  obtain ⟨U2, hU2⟩ : ∃ U, U1.alloc (.cells #[.int .i64 0, .int .i64 0, .slice none 0 0] 29) = U := ⟨_, rfl⟩
  obtain ⟨W, hW⟩ : ∃ U, U2.alloc (.cells #[.int .i64 0, .int .u64 0, .int .u64 0, .int .i64 0, .int .i64 0] 57) = U := ⟨_, rfl⟩
  have s1 : U1.heap.size = R + 1 := by rw [← hU1, ← hR]; simp
  have s2 : U2.heap.size = R + 2 := by rw [← hU2]; simp [s1]
  have b1 : Below w.heap.size w U1 := by rw [← hU1]; exact ball _ _
  have b2 : Below U1.heap.size U1 U2 := by rw [← hU2]; exact ball _ _
  have b3 : Below U2.heap.size U2 W := by rw [← hW]; exact ball _ _
  have HBW := hid (btr (btr b1 b2) b3)
  have hK : W.heap[R]? = some (.cells #[.int .i64 r, .int .i64 m, .slice p n c] 29 (0, 0)) := row_on (row_on (by rw [← hU1, ← hR]; exact World.alloc_heap_new _ _) b2) b3
  have HK1 := hid (show W.heap[R + 1]? = some (.cells #[.int .i64 0, .int .i64 0, .slice none 0 0] 29 (0, 0)) from row_on (by rw [← hU2, ← s1]; exact World.alloc_heap_new _ _) b3)
  have HZ := hid (show W.heap[R + 2]? = some (.cells #[.int .i64 0, .int .u64 0, .int .u64 0, .int .i64 0, .int .i64 0] 57 (0, 0)) from by rw [← hW, ← s2]; exact World.alloc_heap_new _ _)
  have HK := hid hK
  have k0 := row_cell hK 0
  have k1 := row_cell hK 1
  have k2 := row_cell hK 2
  simp only [List.getElem?_toArray, List.getElem?_cons_succ, List.getElem?_cons_zero] at k0 k1 k2
  have H1 := hid hU1
  have H2 := hid hU2
  have HW := hid hW
  have CC := hid (show Calls Tryz.prog 18 #[.agg #[.int .i64 r, .int .i64 m, .slice p n c]] W fun e w' => e = .returned (.tuple #[.agg #[.int .i64 0, .int .u64 0, .int .u64 0, .int .i64 0, .int .i64 0], .bool false]) ∧ Below W.heap.size W w' from CQ.out W HBW.out)
  clear CQ h hk hr hq hnn
  clear hW hU1 hU2 hR hK s1 s2 b1 b2 b3
  go_enter Tryz.func20, Tryz.ntmps20
  go_upto_region 1 with fail
  rw [H1.out, H2.out, HW.out, HRR.out]
  go_upto_region 3 with (go_at_call 18; with_reducible refine (CC.out).mono ?_; rintro e v1 ⟨rfl, hb⟩; have V1 := hid hb; clear hb)
  clear k0 k1 k2
  obtain ⟨X, hX⟩ : ∃ X, v1.alloc (.cells #[.int .i64 0, .int .u64 0, .int .u64 0, .int .i64 0, .int .i64 0] 57) = X := ⟨_, rfl⟩
  obtain ⟨g, hg⟩ : ∃ g, v1.heap.size = g := ⟨_, rfl⟩
  have BX := hid (show Below v1.heap.size v1 X from by rw [← hX]; exact ball _ _)
  have hXg : X.heap[g]? = some (.cells #[.int .i64 0, .int .u64 0, .int .u64 0, .int .i64 0, .int .i64 0] 57 (0, 0)) := by rw [← hX, ← hg]; exact World.alloc_heap_new _ _
  rw [hX, hg]
  have hKX := row_on (row_on HK.out V1.out) BX.out
  have HK1X := hid (row_on (row_on HK1.out V1.out) BX.out)
  have HZX := hid (row_on (row_on HZ.out V1.out) BX.out)
  have k0 := row_cell hKX 0
  have k1 := row_cell hKX 1
  have k2 := row_cell hKX 2
  simp only [List.getElem?_toArray, List.getElem?_cons_succ, List.getElem?_cons_zero] at k0 k1 k2
  obtain ⟨z0, z1, z2, z3, z4⟩ := row5 hXg
  have HBX := hid (btr HBW.out (btr V1.out BX.out))
  have HKX' := hid hKX
  have HXG := hid hXg
  have HGR := hid (show R + 2 < g from by have := row_lt (row_on HZ.out V1.out); rw [← hg]; exact this)
  have AI := hid (show (Tryz.prog.info? 29).map (·.size) = some (#[.int .i64 r, .int .i64 m, .slice p n c] : Array Value).size from infoR)
  have AS := hid (show (#[.int .i64 0, .int .i64 0, .slice none 0 0] : Array Value).size = (#[.int .i64 r, .int .i64 m, .slice p n c] : Array Value).size from rfl)
  have AA := hid (show (#[.int .i64 r, .int .i64 m, .slice p n c] : Array Value).all (·.oneCell') = true from by simp [Value.oneCell'])
  have AI2 := hid (show (Tryz.prog.info? 57).map (·.size) = some (#[.int .i64 0, .int .u64 0, .int .u64 0, .int .i64 0, .int .i64 0] : Array Value).size from infoQ)
  have AS2 := hid (show (#[.int .i64 0, .int .u64 0, .int .u64 0, .int .i64 0, .int .i64 0] : Array Value).size = (#[.int .i64 0, .int .u64 0, .int .u64 0, .int .i64 0, .int .i64 0] : Array Value).size from rfl)
  have AA2 := hid (show (#[.int .i64 0, .int .u64 0, .int .u64 0, .int .i64 0, .int .i64 0] : Array Value).all (·.oneCell') = true from by simp [Value.oneCell'])
  clear hX hg hXg hKX
  obtain ⟨X0, hX0⟩ : ∃ U, X.drew = U := ⟨_, rfl⟩
  have BX0 := hid (show Below X.heap.size X X0 from by rw [← hX0]; exact bdrew1 _)
  have HS := hid (show ∀ U : World, U.heap[R]? = X.heap[R]? → U.heap[g]? = X.heap[g]? → U.cell? ⟨R, 0, none⟩ = some (.int .i64 r) ∧ U.cell? ⟨R, 1, none⟩ = some (.int .i64 m) ∧ U.cell? ⟨R, 2, none⟩ = some (.slice p n c) ∧ U.cell? ⟨g, 0, none⟩ = some (.int .i64 0) ∧ U.cell? ⟨g, 1, none⟩ = some (.int .u64 0) ∧ U.cell? ⟨g, 2, none⟩ = some (.int .u64 0) ∧ U.cell? ⟨g, 3, none⟩ = some (.int .i64 0) ∧ U.cell? ⟨g, 4, none⟩ = some (.int .i64 0) from fun U e1 e2 => by
    have r1 := e1.trans HKX'.out
    obtain ⟨y0, y1, y2, y3, y4⟩ := row5 (e2.trans HXG.out)
    exact ⟨row_cell r1 0, row_cell r1 1, row_cell r1 2, y0, y1, y2, y3, y4⟩)
  have hgR := HGR.out
  have HK1X := hid (row_on HK1X.out BX0.out)
  have HZX := hid (row_on HZX.out BX0.out)
  refine wp_region_held_drew (S := (fun U => U.cell? ⟨R, 0, none⟩ = some (.int .i64 r) ∧ U.cell? ⟨R, 1, none⟩ = some (.int .i64 m) ∧ U.cell? ⟨R, 2, none⟩ = some (.slice p n c) ∧ U.cell? ⟨g, 0, none⟩ = some (.int .i64 0) ∧ U.cell? ⟨g, 1, none⟩ = some (.int .u64 0) ∧ U.cell? ⟨g, 2, none⟩ = some (.int .u64 0) ∧ U.cell? ⟨g, 3, none⟩ = some (.int .i64 0) ∧ U.cell? ⟨g, 4, none⟩ = some (.int .i64 0))) (by kernel_rfl) ?_ (fun hHeld => ?_)
  · (try dsimp only); rw [hX0]; exact HS.out X0 (BX0.out.block R (row_lt HKX'.out)) (BX0.out.block g (row_lt HXG.out))
  rw [hX0] at hHeld ⊢
  clear k0 k1 k2 z0 z1 z2 z3 z4
  refine' wpAnyH_take (i := 0) (oi := _) (v := _) rfl (by kernel_rfl) (by kernel_rfl) (by kernel_rfl) (fun _ _ _ h => h) (Or.inl ⟨by kernel_rfl, ?_⟩) (by assumption) ?_
  rotate_left
  · (intro w hSw; (try dsimp only at hSw); go_simp; try (with_reducible rfl))
  try simp only [List.getElem_toArray, List.getElem_cons_succ, List.getElem_cons_zero, Act.put, List.setIfInBounds_toArray, List.set_cons_zero, List.set_cons_succ]
  refine' wpAnyH_take (i := 1) (oi := _) (v := _) rfl (by kernel_rfl) (by kernel_rfl) (by kernel_rfl) (fun _ _ _ h => h) (Or.inl ⟨by kernel_rfl, ?_⟩) (by assumption) ?_
  rotate_left
  · (intro w hSw; (try dsimp only at hSw); go_simp; try (with_reducible rfl))
  try simp only [List.getElem_toArray, List.getElem_cons_succ, List.getElem_cons_zero, Act.put, List.setIfInBounds_toArray, List.set_cons_zero, List.set_cons_succ]
  refine wpAnyH_ready (rs := [2]) (by kernel_rfl) (by simp) ?_
  refine AllReadyH.cons (o := _) rfl (fun KK hK => ?_) AllReadyH.nil
  refine step_store_row (by rfl) 29 (.tmp 2) (.tmp 20) (by rfl) (R + 1) #[.int .i64 r, .int .i64 m, .slice p n c] (by rfl) (by rfl) 29 _ HK1X.out AI.out AS.out AA.out ?_
  obtain ⟨Y, hY⟩ : ∃ Y, X0.setRow (R + 1) #[.int .i64 r, .int .i64 m, .slice p n c] = Y := ⟨_, rfl⟩
  have KY := hid (show Kp (fun j => j = R + 1) X0 Y from by rw [← hY]; exact setRow_kp _ _ _)
  have HKY := hid (show Y.heap[R + 1]? = some (.cells #[.int .i64 r, .int .i64 m, .slice p n c] 29 (0, 0)) from by rw [← hY]; exact setRow_heap X0 (R + 1) _ _ 29 (0, 0) HK1X.out)
  have HZY := hid (KY.out.row HZX.out (by omega))
  have HBY := hid (show Below w.heap.size w Y from by rw [← hY]; exact setRow_below (btr HBX.out BX0.out) (by have := HRR.out; omega))
  have eR := hid (show Y.heap[R]? = X.heap[R]? from (KY.out.obj R (Nat.lt_of_lt_of_le (row_lt HKX'.out) BX0.out.size) (by omega)).trans (BX0.out.block R (row_lt HKX'.out)))
  have eG := hid (show Y.heap[g]? = X.heap[g]? from (KY.out.obj g (Nat.lt_of_lt_of_le (row_lt HXG.out) BX0.out.size) (by omega)).trans (BX0.out.block g (row_lt HXG.out)))
  rw [hY]
  refine hK.out _ _ ?_ (fun hHeld => ?_)
  · (try dsimp only); exact HS.out Y eR.out eG.out
  clear hK hY
  try simp only [List.getElem_toArray, List.getElem_cons_succ, List.getElem_cons_zero, Act.put, List.setIfInBounds_toArray, List.set_cons_zero, List.set_cons_succ]
  refine' wpAnyH_take (i := 3) (oi := _) (v := _) rfl (by kernel_rfl) (by kernel_rfl) (by kernel_rfl) (fun _ _ _ h => h) (Or.inl ⟨by kernel_rfl, ?_⟩) (by assumption) ?_
  rotate_left
  · (intro w hSw; (try dsimp only at hSw); go_simp; try (with_reducible rfl))
  try simp only [List.getElem_toArray, List.getElem_cons_succ, List.getElem_cons_zero, Act.put, List.setIfInBounds_toArray, List.set_cons_zero, List.set_cons_succ]
  refine wpAnyH_ready (rs := [4]) (by kernel_rfl) (by simp) ?_
  refine AllReadyH.cons (o := _) rfl (fun KK hK => ?_) AllReadyH.nil
  refine step_store_row (by rfl) 57 (.tmp 4) (.tmp 21) (by rfl) (R + 2) #[.int .i64 0, .int .u64 0, .int .u64 0, .int .i64 0, .int .i64 0] (by rfl) (by rfl) 57 _ HZY.out AI2.out AS2.out AA2.out ?_
  refine hK.out _ _ ?_ (fun hHeld => ?_)
  · (try dsimp only); exact HS.out _ ((setRow_other Y (R + 2) R _ (by omega)).trans eR.out) ((setRow_other Y (R + 2) g _ (by omega)).trans eG.out)
  clear hK
  try simp only [List.getElem_toArray, List.getElem_cons_succ, List.getElem_cons_zero, Act.put, List.setIfInBounds_toArray, List.set_cons_zero, List.set_cons_succ]
  refine' wpAnyH_take (i := 5) (oi := _) (v := _) rfl (by kernel_rfl) (by kernel_rfl) (by kernel_rfl) (fun _ _ _ h => h) (Or.inl ⟨by kernel_rfl, ?_⟩) (by assumption) ?_
  rotate_left
  · (intro w hSw; (try dsimp only at hSw); go_simp; try (with_reducible rfl))
  try simp only [List.getElem_toArray, List.getElem_cons_succ, List.getElem_cons_zero, Act.put, List.setIfInBounds_toArray, List.set_cons_zero, List.set_cons_succ]
  refine wpAnyH_done (by kernel_rfl) ?_ _
  clear hHeld
  go_wp2
  refine bodyPost_ret (res_ctct (fn := Tryz.f20) Tryz.results20 _ _ (R + 1) (R + 2) 29 57 #[.int .i64 r, .int .i64 m, .slice p n c] #[.int .i64 0, .int .u64 0, .int .u64 0, .int .i64 0, .int .i64 0] (0, 0) (0, 0) _ _ (.slice none 0 0) (.bool false) (by rfl) (by rfl) (by rfl) (by rfl) ((setRow_other Y (R + 2) (R + 1) _ (by omega)).trans HKY.out) (setRow_heap _ _ _ _ 57 (0, 0) HZY.out) Tryz.underlying29 rfl infoR Tryz.underlying57 rfl infoQ) rfl ⟨rfl, ?_⟩
  exact setRow_below HBY.out (by have := HRR.out; omega)
end Go.Proofs.YtnmkfdndfhefiaaGreat
