/-
  SnapshotAsks is walked.
-/
import Derived.Test.YtopfgoifmcjcaaaSnF
namespace Go.Proofs.Ytopfgoifmcjcaaa
open Go.RowKit Go.Deep
set_option linter.unusedVariables false
set_option linter.unusedSimpArgs false
set_option maxHeartbeats 8000000
set_option maxRecDepth 100000
attribute [local go_sem ↓] Go.wp_at_zero Go.wp_at_succ
theorem sl_none (w : World) : Sl w none 0 [] := ⟨fun i hi => by simp at hi, fun _ => ⟨rfl, rfl⟩, by simp, by omega, by simp⟩
theorem sl_empty (w : World) (g : Nat) : Sl w (some ⟨g, 0, none⟩) 0 [] := ⟨fun i hi => by simp at hi, fun e => (by cases e), by simp, by omega, by simp⟩
theorem sl_one {w : World} {g : Nat} {o : Or} (h : w.heap[g]? = some (.cells (orow o) 33 (0, 0))) : Sl w (some ⟨g, 0, none⟩) 1 [o] :=
  ⟨fun i hi => by
    obtain rfl : i = 0 := by simpa using hi
    exact ⟨g, 0, rfl, row_lt h, fun j hj => by rw [row_cell h]; simp⟩, fun e => (by cases e), by simp, by omega, by simp⟩
theorem asks_walk (ka ma ha sa kb mb hb sb id : Int) (x1 x2 y1 y2 : Option Addr) (c1 c2 d1 d2 : Nat) (os1 os2 ps1 ps2 : List Or) (w : World) (hx1 : Sl w x1 c1 os1) (hx2 : Sl w x2 c2 os2) (hy1 : Sl w y1 d1 ps1) (hy2 : Sl w y2 d2 ps2) :
    Calls Try.prog 3 #[.agg #[.int .i64 ka, .int .i64 ma, .slice x1 os1.length c1, .slice x2 os2.length c2, .int .u64 ha, .int .u64 sa], .agg #[.int .i64 kb, .int .i64 mb, .slice y1 ps1.length d1, .slice y2 ps2.length d2, .int .u64 hb, .int .u64 sb], .int .u64 id] w fun e w' => e = .returned (.bool true) ∧ Below w.heap.size w w' := by
  have CC := hid (fun (U : World) (hU : Below w.heap.size w U) => copy_any ka ma ha sa x1 x2 c1 c2 os1 os2 U (hx1.on hU) (hx2.on hU))
  have CA := hid (fun (U : World) (p1 p2 : Option Addr) (q1 q2 : Nat) (hp1 : Sl U p1 q1 os1) (hp2 : Sl U p2 q2 os2) => ahead_any ka ma ha sa id p1 p2 q1 q2 os1 os2 U hp1.os' hp2.os' hp1.len hp2.len hp1.le hp2.le hp1.lt hp2.lt)
  have CR := hid (fun (U : World) (hU : Below w.heap.size w U) => rahead_any ka ma ha sa id x1 x2 c1 c2 os1 os2 U (hx1.on hU).os' (hx2.on hU).os' hx1.len hx2.len)
  have CS := hid (fun (U : World) (hU : Below w.heap.size w U) => same_any ka ma ha sa kb mb hb sb x1 x2 y1 y2 c1 c2 d1 d2 os1 os2 ps1 ps2 U (hx1.on hU) (hx2.on hU) (hy1.on hU) (hy2.on hU))
  have CT := hid (fun (U : World) (hU : Below w.heap.size w U) => rsame_any ka ma ha sa kb mb hb sb x1 x2 y1 y2 c1 c2 d1 d2 os1 os2 ps1 ps2 U (hx1.on hU) (hx2.on hU) (hy1.on hU) (hy2.on hU))
  have CU := hid (fun (U : World) (hU : Below w.heap.size w U) (p1 p2 : Option Addr) (q1 q2 : Nat) (hp1 : Sl U p1 q1 os1) (hp2 : Sl U p2 q2 os2) => (show Calls Try.prog 7 #[.agg #[.int .i64 ka, .int .i64 ma, .slice x1 os1.length c1, .slice x2 os2.length c2, .int .u64 ha, .int .u64 sa], .agg #[.int .i64 ka, .int .i64 ma, .slice p1 os1.length q1, .slice p2 os2.length q2, .int .u64 ha, .int .u64 sa]] U fun e w' => e = .returned (.bool true) ∧ Below U.heap.size U w' from by
    have := same_any ka ma ha sa ka ma ha sa x1 x2 p1 p2 c1 c2 q1 q2 os1 os2 os1 os2 U (hx1.on hU) (hx2.on hU) hp1 hp2
    simpa using this))
  have CV := hid (fun (U : World) (X Y : Nat) (h1 : U.heap[X]? = some (.cells #[.int .u64 1, .int .u32 0, .int .i64 0, .int .i64 0, .int .u64 0, .int .u64 0, .int .u64 0] 33 (0, 0))) (h2 : U.heap[Y]? = some (.cells #[.int .u64 2, .int .u32 0, .int .i64 0, .int .i64 0, .int .u64 0, .int .u64 0, .int .u64 0] 33 (0, 0))) => (show Calls Try.prog 7 #[.agg #[.int .i64 0, .int .i64 0, .slice (some ⟨X, 0, none⟩) 1 1, .slice none 0 0, .int .u64 1, .int .u64 0], .agg #[.int .i64 0, .int .i64 0, .slice (some ⟨Y, 0, none⟩) 1 1, .slice none 0 0, .int .u64 1, .int .u64 0]] U fun e w' => e = .returned (.bool false) ∧ Below U.heap.size U w' from by
    have := same_any 0 0 1 0 0 0 1 0 (some ⟨X, 0, none⟩) none (some ⟨Y, 0, none⟩) none 1 0 1 0 [⟨1, 0, 0, 0, 0, 0, 0⟩] [] [⟨2, 0, 0, 0, 0, 0, 0⟩] [] U (sl_one h1) (sl_none _) (sl_one h2) (sl_none _)
    simpa using this))
  have CX := hid (fun (U : World) (g : Nat) => (show Calls Try.prog 7 #[.agg #[.int .i64 0, .int .i64 0, .slice none 0 0, .slice none 0 0, .int .u64 0, .int .u64 0], .agg #[.int .i64 0, .int .i64 0, .slice none 0 0, .slice (some ⟨g, 0, none⟩) 0 0, .int .u64 0, .int .u64 0]] U fun e w' => e = .returned (.bool true) ∧ Below U.heap.size U w' from by
    have := same_any 0 0 0 0 0 0 0 0 none none none (some ⟨g, 0, none⟩) 0 0 0 0 [] [] [] [] U (sl_none _) (sl_none _) (sl_none _) (sl_empty _ _)
    simpa using this))
  obtain ⟨n1, e1⟩ : ∃ n, os1.length = n := ⟨_, rfl⟩
  obtain ⟨n2, e2⟩ : ∃ n, os2.length = n := ⟨_, rfl⟩
  obtain ⟨n3, e3⟩ : ∃ n, ps1.length = n := ⟨_, rfl⟩
  obtain ⟨n4, e4⟩ : ∃ n, ps2.length = n := ⟨_, rfl⟩
  obtain ⟨N, eN⟩ : ∃ n, (ah id os1 os2).1 = n := ⟨_, rfl⟩
  obtain ⟨V, eV⟩ : ∃ n, (ah id os1 os2).2 = n := ⟨_, rfl⟩
  obtain ⟨Z, eZ⟩ : ∃ n, decide (ka = kb ∧ ma = mb ∧ ha = hb ∧ sa = sb ∧ os1 = ps1 ∧ os2 = ps2) = n := ⟨_, rfl⟩
  rw [e1, e2] at CC CA CR CU
  rw [e1, e2, e3, e4, eZ] at CS CT
  rw [eN, eV] at CA CR
  rw [e1, e2, e3, e4]
  clear e1 e2 e3 e4 eN eV eZ hx1 hx2 hy1 hy2
  obtain ⟨R, hR⟩ : ∃ R, w.heap.size = R := ⟨_, rfl⟩
  obtain ⟨U0, hU0⟩ : ∃ U, w.alloc (.cells #[.int .i64 ka, .int .i64 ma, .slice x1 n1 c1, .slice x2 n2 c2, .int .u64 ha, .int .u64 sa] 27) = U := ⟨_, rfl⟩
  obtain ⟨W, hW⟩ : ∃ U, U0.alloc (.cells #[.int .i64 kb, .int .i64 mb, .slice y1 n3 d1, .slice y2 n4 d2, .int .u64 hb, .int .u64 sb] 27) = U := ⟨_, rfl⟩
  have s0 : U0.heap.size = R + 1 := by rw [← hU0, ← hR]; simp
  have hbW : Below w.heap.size w W := by rw [← hW, ← hU0]; exact btr (ball _ _) (ball _ _)
  have hA : W.heap[R]? = some (.cells #[.int .i64 ka, .int .i64 ma, .slice x1 n1 c1, .slice x2 n2 c2, .int .u64 ha, .int .u64 sa] 27 (0, 0)) := by rw [← hW]; exact row_on (by rw [← hU0, ← hR]; exact World.alloc_heap_new _ _) (ball _ _)
  have hB : W.heap[R + 1]? = some (.cells #[.int .i64 kb, .int .i64 mb, .slice y1 n3 d1, .slice y2 n4 d2, .int .u64 hb, .int .u64 sb] 27 (0, 0)) := by rw [← hW, ← s0]; exact World.alloc_heap_new _ _
  have HU0 := hid hU0
  have HW := hid hW
  have HRR := hid hR
  have HBW := hid hbW
  have HA := hid hA
  have HB := hid hB
  have HCA := hid (fun (U : World) (hU : Below W.heap.size W U) => row6 (row_on HA.out hU))
  have HCB := hid (fun (U : World) (hU : Below W.heap.size W U) => row6 (row_on HB.out hU))
  clear hR hU0 hW s0 hbW hA hB
  go_enter Try.func3, Try.ntmps3
  go_upto_region 1 with fail
  rw [HU0.out, HW.out, HRR.out]
  obtain ⟨a0, a1, a2, a3, a4, a5⟩ := HCA.out W (Below.refl _ _)
  go_upto_region 2 with (first | (go_at_call 5; with_reducible refine (CC.out _ HBW.out).mono ?_; rintro e w1 ⟨p1, p2, q1, q2, rfl, hp1, hp2, hb1⟩; have HP1 := hid hp1; have HP2 := hid hp2; have HB1 := hid hb1; clear hp1 hp2 hb1) | (go_at_call 4; with_reducible refine (CA.out _ _ _ _ _ HP1.out HP2.out).mono ?_; rintro e w2 ⟨rfl, hb2⟩; have HB2 := hid (btr HB1.out hb2); clear hb2))
  clear a0 a1 a2 a3 a4 a5
  obtain ⟨a0, a1, a2, a3, a4, a5⟩ := HCA.out w2 HB2.out
  go_upto_region 3 with (go_at_call 6; with_reducible refine (CR.out _ (btr HBW.out HB2.out)).mono ?_; rintro e w3 ⟨rfl, hb3⟩; have HB3 := hid (btr HB2.out hb3); clear hb3)
  clear a0 a1 a2 a3 a4 a5
  go_upto_region 5 with fail
  obtain ⟨X, hX⟩ : ∃ X, w3.heap.size = X := ⟨_, rfl⟩
  rw [hX]
  obtain ⟨V1, hV1⟩ : ∃ U, w3.alloc (.cells #[.int .u64 1, .int .u32 0, .int .i64 0, .int .i64 0, .int .u64 0, .int .u64 0, .int .u64 0] 33) = U := ⟨_, rfl⟩
  obtain ⟨V2, hV2⟩ : ∃ U, V1.alloc (.cells #[.int .i64 0, .int .i64 0, .slice (some ⟨X, 0, none⟩) 1 1, .slice none 0 0, .int .u64 1, .int .u64 0] 27) = U := ⟨_, rfl⟩
  obtain ⟨V3, hV3⟩ : ∃ U, V2.alloc (.cells #[.int .u64 2, .int .u32 0, .int .i64 0, .int .i64 0, .int .u64 0, .int .u64 0, .int .u64 0] 33) = U := ⟨_, rfl⟩
  obtain ⟨W4, hW4⟩ : ∃ U, V3.alloc (.cells #[.int .i64 0, .int .i64 0, .slice (some ⟨X + 1 + 1, 0, none⟩) 1 1, .slice none 0 0, .int .u64 1, .int .u64 0] 27) = U := ⟨_, rfl⟩
  have z1 : V1.heap.size = X + 1 := by rw [← hV1, ← hX]; simp
  have z2 : V2.heap.size = X + 1 + 1 := by rw [← hV2]; simp [z1]
  have z3 : V3.heap.size = X + 1 + 1 + 1 := by rw [← hV3]; simp [z2]
  have g1 : V1.heap[X]? = some (.cells #[.int .u64 1, .int .u32 0, .int .i64 0, .int .i64 0, .int .u64 0, .int .u64 0, .int .u64 0] 33 (0, 0)) := by rw [← hV1, ← hX]; exact World.alloc_heap_new _ _
  have g2 : V2.heap[X + 1]? = some (.cells #[.int .i64 0, .int .i64 0, .slice (some ⟨X, 0, none⟩) 1 1, .slice none 0 0, .int .u64 1, .int .u64 0] 27 (0, 0)) := by rw [← hV2, ← z1]; exact World.alloc_heap_new _ _
  have g3 : V3.heap[X + 1 + 1]? = some (.cells #[.int .u64 2, .int .u32 0, .int .i64 0, .int .i64 0, .int .u64 0, .int .u64 0, .int .u64 0] 33 (0, 0)) := by rw [← hV3, ← z2]; exact World.alloc_heap_new _ _
  have g4 : W4.heap[X + 1 + 1 + 1]? = some (.cells #[.int .i64 0, .int .i64 0, .slice (some ⟨X + 1 + 1, 0, none⟩) 1 1, .slice none 0 0, .int .u64 1, .int .u64 0] 27 (0, 0)) := by rw [← hW4, ← z3]; exact World.alloc_heap_new _ _
  have b1 : Below w3.heap.size w3 V1 := by rw [← hV1]; exact ball _ _
  have b2 : Below V1.heap.size V1 V2 := by rw [← hV2]; exact ball _ _
  have b3 : Below V2.heap.size V2 V3 := by rw [← hV3]; exact ball _ _
  have b4 : Below V3.heap.size V3 W4 := by rw [← hW4]; exact ball _ _
  have HB4 := hid (btr (btr (btr (btr HB3.out b1) b2) b3) b4)
  have HF1 := hid (fun (U : World) (hU : Below W4.heap.size W4 U) => row_on (row_on (row_on (row_on g1 b2) b3) b4) hU)
  have HT1 := hid (fun (U : World) (hU : Below W4.heap.size W4 U) => row6 (row_on (row_on (row_on g2 b3) b4) hU))
  have HF2 := hid (fun (U : World) (hU : Below W4.heap.size W4 U) => row_on (row_on g3 b4) hU)
  have HT2 := hid (fun (U : World) (hU : Below W4.heap.size W4 U) => row6 (row_on g4 hU))
  rw [hV1, hV2, hV3, hW4]
  clear hX hV1 hV2 hV3 hW4 z1 z2 z3 g1 g2 g3 g4 b1 b2 b3 b4
  have HW4 := hid (btr HBW.out HB4.out)
  refine wp_region_held_drew (S := (fun U => (U.cell? ⟨R, 0, none⟩ = some (.int .i64 ka) ∧ U.cell? ⟨R, 1, none⟩ = some (.int .i64 ma) ∧ U.cell? ⟨R, 2, none⟩ = some (.slice x1 n1 c1) ∧ U.cell? ⟨R, 3, none⟩ = some (.slice x2 n2 c2) ∧ U.cell? ⟨R, 4, none⟩ = some (.int .u64 ha) ∧ U.cell? ⟨R, 5, none⟩ = some (.int .u64 sa)) ∧ (U.cell? ⟨R + 1, 0, none⟩ = some (.int .i64 kb) ∧ U.cell? ⟨R + 1, 1, none⟩ = some (.int .i64 mb) ∧ U.cell? ⟨R + 1, 2, none⟩ = some (.slice y1 n3 d1) ∧ U.cell? ⟨R + 1, 3, none⟩ = some (.slice y2 n4 d2) ∧ U.cell? ⟨R + 1, 4, none⟩ = some (.int .u64 hb) ∧ U.cell? ⟨R + 1, 5, none⟩ = some (.int .u64 sb)) ∧ Hid (Below W4.heap.size W4 U))) (by kernel_rfl) ?_ (fun hHeld => ?_)
  · (try dsimp only); (exact ⟨HCA.out _ (btr HB4.out (bdrew1 _)), HCB.out _ (btr HB4.out (bdrew1 _)), hid (bdrew1 _)⟩)
  refine' wpAnyH_take (i := 0) (oi := _) (v := _) rfl (by kernel_rfl) (by kernel_rfl) (by kernel_rfl) (fun _ _ _ h => h) (Or.inl ⟨by kernel_rfl, ?hyq1⟩) (by assumption) ?restq1
  case hyq1 => (intro w hSw; (try dsimp only at hSw); go_simp; try (with_reducible rfl))
  try simp only [List.getElem_toArray, List.getElem_cons_succ, List.getElem_cons_zero, Act.put, List.setIfInBounds_toArray, List.set_cons_zero, List.set_cons_succ]
  refine' wpAnyH_take (i := 1) (oi := _) (v := _) rfl (by kernel_rfl) (by kernel_rfl) (by kernel_rfl) (fun _ _ _ h => h) (Or.inl ⟨by kernel_rfl, ?hyq2⟩) (by assumption) ?restq2
  case hyq2 => (intro w hSw; (try dsimp only at hSw); go_simp; try (with_reducible rfl))
  try simp only [List.getElem_toArray, List.getElem_cons_succ, List.getElem_cons_zero, Act.put, List.setIfInBounds_toArray, List.set_cons_zero, List.set_cons_succ]
  refine' wpAnyH_take (i := 2) (oi := _) (v := _) rfl (by kernel_rfl) (by kernel_rfl) (by kernel_rfl) (fun _ _ _ h => h) (Or.inl ⟨by kernel_rfl, ?hyq3⟩) (by assumption) ?restq3
  case hyq3 => (intro w hSw; (try dsimp only at hSw); go_simp; try (with_reducible rfl))
  try simp only [List.getElem_toArray, List.getElem_cons_succ, List.getElem_cons_zero, Act.put, List.setIfInBounds_toArray, List.set_cons_zero, List.set_cons_succ]
  refine' wpAnyH_take (i := 3) (oi := _) (v := _) rfl (by kernel_rfl) (by kernel_rfl) (by kernel_rfl) (fun _ _ _ h => h) (Or.inl ⟨by kernel_rfl, ?hyq4⟩) (by assumption) ?restq4
  case hyq4 => (intro w hSw; (try dsimp only at hSw); go_simp; try (with_reducible rfl))
  try simp only [List.getElem_toArray, List.getElem_cons_succ, List.getElem_cons_zero, Act.put, List.setIfInBounds_toArray, List.set_cons_zero, List.set_cons_succ]
  refine' wpAnyH_take (i := 4) (oi := _) (v := _) rfl (by kernel_rfl) (by kernel_rfl) (by kernel_rfl) (fun _ _ _ h => h) (Or.inl ⟨by kernel_rfl, ?hyq5⟩) (by assumption) ?restq5
  case hyq5 => (intro w hSw; (try dsimp only at hSw); go_simp; try (with_reducible rfl))
  try simp only [List.getElem_toArray, List.getElem_cons_succ, List.getElem_cons_zero, Act.put, List.setIfInBounds_toArray, List.set_cons_zero, List.set_cons_succ]
  refine' wpAnyH_take (i := 5) (oi := _) (v := _) rfl (by kernel_rfl) (by kernel_rfl) (by kernel_rfl) (fun _ _ _ h => h) (Or.inl ⟨by kernel_rfl, ?hyq6⟩) (by assumption) ?restq6
  case hyq6 => (intro w hSw; (try dsimp only at hSw); go_simp; try (with_reducible rfl))
  try simp only [List.getElem_toArray, List.getElem_cons_succ, List.getElem_cons_zero, Act.put, List.setIfInBounds_toArray, List.set_cons_zero, List.set_cons_succ]
  refine' wpAnyH_take (i := 6) (oi := _) (v := _) rfl (by kernel_rfl) (by kernel_rfl) (by kernel_rfl) (fun _ _ _ h => h) (Or.inl ⟨by kernel_rfl, ?hyq7⟩) (by assumption) ?restq7
  case hyq7 => (intro w hSw; (try dsimp only at hSw); go_simp; try (with_reducible rfl))
  try simp only [List.getElem_toArray, List.getElem_cons_succ, List.getElem_cons_zero, Act.put, List.setIfInBounds_toArray, List.set_cons_zero, List.set_cons_succ]
  refine' wpAnyH_take (i := 7) (oi := _) (v := _) rfl (by kernel_rfl) (by kernel_rfl) (by kernel_rfl) (fun _ _ _ h => h) (Or.inl ⟨by kernel_rfl, ?hyq8⟩) (by assumption) ?restq8
  case hyq8 => (intro w hSw; (try dsimp only at hSw); go_simp; try (with_reducible rfl))
  try simp only [List.getElem_toArray, List.getElem_cons_succ, List.getElem_cons_zero, Act.put, List.setIfInBounds_toArray, List.set_cons_zero, List.set_cons_succ]
  refine' wpAnyH_take (i := 8) (oi := _) (v := _) rfl (by kernel_rfl) (by kernel_rfl) (by kernel_rfl) (fun _ _ _ h => h) (Or.inl ⟨by kernel_rfl, ?hyq9⟩) (by assumption) ?restq9
  case hyq9 => (intro w hSw; (try dsimp only at hSw); go_simp; try (with_reducible rfl))
  try simp only [List.getElem_toArray, List.getElem_cons_succ, List.getElem_cons_zero, Act.put, List.setIfInBounds_toArray, List.set_cons_zero, List.set_cons_succ]
  refine' wpAnyH_take (i := 9) (oi := _) (v := _) rfl (by kernel_rfl) (by kernel_rfl) (by kernel_rfl) (fun _ _ _ h => h) (Or.inl ⟨by kernel_rfl, ?hyq10⟩) (by assumption) ?restq10
  case hyq10 => (intro w hSw; (try dsimp only at hSw); go_simp; try (with_reducible rfl))
  try simp only [List.getElem_toArray, List.getElem_cons_succ, List.getElem_cons_zero, Act.put, List.setIfInBounds_toArray, List.set_cons_zero, List.set_cons_succ]
  refine' wpAnyH_take (i := 10) (oi := _) (v := _) rfl (by kernel_rfl) (by kernel_rfl) (by kernel_rfl) (fun _ _ _ h => h) (Or.inl ⟨by kernel_rfl, ?hyq11⟩) (by assumption) ?restq11
  case hyq11 => (intro w hSw; (try dsimp only at hSw); go_simp; try (with_reducible rfl))
  try simp only [List.getElem_toArray, List.getElem_cons_succ, List.getElem_cons_zero, Act.put, List.setIfInBounds_toArray, List.set_cons_zero, List.set_cons_succ]
  refine' wpAnyH_take (i := 12) (oi := _) (v := _) rfl (by kernel_rfl) (by kernel_rfl) (by kernel_rfl) (fun _ _ _ h => h) (Or.inl ⟨by kernel_rfl, ?hyq12⟩) (by assumption) ?restq12
  case hyq12 => (intro w hSw; (try dsimp only at hSw); go_simp; try (with_reducible rfl))
  try simp only [List.getElem_toArray, List.getElem_cons_succ, List.getElem_cons_zero, Act.put, List.setIfInBounds_toArray, List.set_cons_zero, List.set_cons_succ]
  refine' wpAnyH_take (i := 13) (oi := _) (v := _) rfl (by kernel_rfl) (by kernel_rfl) (by kernel_rfl) (fun _ _ _ h => h) (Or.inl ⟨by kernel_rfl, ?hyq13⟩) (by assumption) ?restq13
  case hyq13 => (intro w hSw; (try dsimp only at hSw); go_simp; try (with_reducible rfl))
  try simp only [List.getElem_toArray, List.getElem_cons_succ, List.getElem_cons_zero, Act.put, List.setIfInBounds_toArray, List.set_cons_zero, List.set_cons_succ]
  obtain ⟨⟨a0, a1, a2, a3, a4, a5⟩, ⟨f0, f1, f2, f3, f4, f5⟩, HBx⟩ := hHeld
  refine wpAnyH_ready (rs := [11]) (by kernel_rfl) (by simp) ?_
  refine AllReadyH.cons (o := _) rfl (fun K hK => ?_) AllReadyH.nil
  go_simp
  go_at_call 7; with_reducible refine (CS.out _ (btr HW4.out HBx.out)).mono ?_; rintro e w5 ⟨rfl, hbw5⟩; have HBw5 := hid (btr HBx.out hbw5); clear hbw5
  (try go_wp2_with fail)
  refine hK.out _ _ ?_ (fun hHeld => ?_)
  · (try dsimp only); (exact ⟨HCA.out _ (btr HB4.out HBw5.out), HCB.out _ (btr HB4.out HBw5.out), hid HBw5.out⟩)
  clear hK K
  try simp only [List.getElem_toArray, List.getElem_cons_succ, List.getElem_cons_zero, Act.put, List.setIfInBounds_toArray, List.set_cons_zero, List.set_cons_succ]
  clear a0 a1 a2 a3 a4 a5 f0 f1 f2 f3 f4 f5
  obtain ⟨⟨a0, a1, a2, a3, a4, a5⟩, ⟨f0, f1, f2, f3, f4, f5⟩, HBy⟩ := hHeld
  refine wpAnyH_ready (rs := [14]) (by kernel_rfl) (by simp) ?_
  refine AllReadyH.cons (o := _) rfl (fun K hK => ?_) AllReadyH.nil
  go_simp
  go_at_call 8; with_reducible refine (CT.out _ (btr HW4.out HBy.out)).mono ?_; rintro e w6 ⟨rfl, hbw6⟩; have HBw6 := hid (btr HBy.out hbw6); clear hbw6
  (try go_wp2_with fail)
  refine hK.out _ _ ?_ (fun hHeld => ?_)
  · (try dsimp only); (exact ⟨HCA.out _ (btr HB4.out HBw6.out), HCB.out _ (btr HB4.out HBw6.out), hid HBw6.out⟩)
  clear hK K
  try simp only [List.getElem_toArray, List.getElem_cons_succ, List.getElem_cons_zero, Act.put, List.setIfInBounds_toArray, List.set_cons_zero, List.set_cons_succ]
  clear a0 a1 a2 a3 a4 a5 f0 f1 f2 f3 f4 f5
  refine' wpAnyH_take (i := 15) (oi := _) (v := _) rfl (by kernel_rfl) (by kernel_rfl) (by kernel_rfl) (fun _ _ _ h => h) (Or.inl ⟨by kernel_rfl, ?hyq14⟩) (by assumption) ?restq14
  case hyq14 => (intro w hSw; (try dsimp only at hSw); go_simp; try (with_reducible rfl))
  try simp only [List.getElem_toArray, List.getElem_cons_succ, List.getElem_cons_zero, Act.put, List.setIfInBounds_toArray, List.set_cons_zero, List.set_cons_succ]
  refine' wpAnyH_take (i := 16) (oi := _) (v := _) rfl (by kernel_rfl) (by kernel_rfl) (by kernel_rfl) (fun _ _ _ h => h) (Or.inl ⟨by kernel_rfl, ?hyq15⟩) (by assumption) ?restq15
  case hyq15 => (intro w hSw; (try dsimp only at hSw); go_simp; try (with_reducible rfl))
  try simp only [List.getElem_toArray, List.getElem_cons_succ, List.getElem_cons_zero, Act.put, List.setIfInBounds_toArray, List.set_cons_zero, List.set_cons_succ]
  refine wpAnyH_done (by kernel_rfl) ?_ _
  obtain ⟨_, _, HB6⟩ := hHeld
  go_upto_region 7 with fail
  refine wp_region_held_drew (S := (fun U => (U.cell? ⟨R, 0, none⟩ = some (.int .i64 ka) ∧ U.cell? ⟨R, 1, none⟩ = some (.int .i64 ma) ∧ U.cell? ⟨R, 2, none⟩ = some (.slice x1 n1 c1) ∧ U.cell? ⟨R, 3, none⟩ = some (.slice x2 n2 c2) ∧ U.cell? ⟨R, 4, none⟩ = some (.int .u64 ha) ∧ U.cell? ⟨R, 5, none⟩ = some (.int .u64 sa)) ∧ (U.cell? ⟨X + 1, 0, none⟩ = some (.int .i64 0) ∧ U.cell? ⟨X + 1, 1, none⟩ = some (.int .i64 0) ∧ U.cell? ⟨X + 1, 2, none⟩ = some (.slice (some ⟨X, 0, none⟩) 1 1) ∧ U.cell? ⟨X + 1, 3, none⟩ = some (.slice none 0 0) ∧ U.cell? ⟨X + 1, 4, none⟩ = some (.int .u64 1) ∧ U.cell? ⟨X + 1, 5, none⟩ = some (.int .u64 0)) ∧ (U.cell? ⟨X + 1 + 1 + 1, 0, none⟩ = some (.int .i64 0) ∧ U.cell? ⟨X + 1 + 1 + 1, 1, none⟩ = some (.int .i64 0) ∧ U.cell? ⟨X + 1 + 1 + 1, 2, none⟩ = some (.slice (some ⟨X + 1 + 1, 0, none⟩) 1 1) ∧ U.cell? ⟨X + 1 + 1 + 1, 3, none⟩ = some (.slice none 0 0) ∧ U.cell? ⟨X + 1 + 1 + 1, 4, none⟩ = some (.int .u64 1) ∧ U.cell? ⟨X + 1 + 1 + 1, 5, none⟩ = some (.int .u64 0)) ∧ Hid (Below W4.heap.size W4 U))) (by kernel_rfl) ?_ (fun hHeld => ?_)
  · (try dsimp only); (exact ⟨HCA.out _ (btr HB4.out (btr HB6.out (bdrew1 _))), HT1.out _ (btr HB6.out (bdrew1 _)), HT2.out _ (btr HB6.out (bdrew1 _)), hid (btr HB6.out (bdrew1 _))⟩)
  refine' wpAnyH_take (i := 0) (oi := _) (v := _) rfl (by kernel_rfl) (by kernel_rfl) (by kernel_rfl) (fun _ _ _ h => h) (Or.inl ⟨by kernel_rfl, ?hyq16⟩) (by assumption) ?restq16
  case hyq16 => (intro w hSw; (try dsimp only at hSw); go_simp; try (with_reducible rfl))
  try simp only [List.getElem_toArray, List.getElem_cons_succ, List.getElem_cons_zero, Act.put, List.setIfInBounds_toArray, List.set_cons_zero, List.set_cons_succ]
  refine' wpAnyH_take (i := 1) (oi := _) (v := _) rfl (by kernel_rfl) (by kernel_rfl) (by kernel_rfl) (fun _ _ _ h => h) (Or.inl ⟨by kernel_rfl, ?hyq17⟩) (by assumption) ?restq17
  case hyq17 => (intro w hSw; (try dsimp only at hSw); go_simp; try (with_reducible rfl))
  try simp only [List.getElem_toArray, List.getElem_cons_succ, List.getElem_cons_zero, Act.put, List.setIfInBounds_toArray, List.set_cons_zero, List.set_cons_succ]
  obtain ⟨⟨a0, a1, a2, a3, a4, a5⟩, ⟨f0, f1, f2, f3, f4, f5⟩, ⟨t0, t1, t2, t3, t4, t5⟩, HBx⟩ := hHeld
  refine wpAnyH_ready (rs := [2]) (by kernel_rfl) (by simp) ?_
  refine AllReadyH.cons (o := _) rfl (fun K hK => ?_) AllReadyH.nil
  go_simp
  go_at_call 5; with_reducible refine (CC.out _ (btr HW4.out HBx.out)).mono ?_; rintro e w7 ⟨p3, p4, q3, q4, rfl, hp3, hp4, hb7⟩; have HP3 := hid hp3; have HP4 := hid hp4; have HBw7 := hid (btr HBx.out hb7); clear hp3 hp4 hb7
  (try go_wp2_with fail)
  refine hK.out _ _ ?_ (fun hHeld => ?_)
  · (try dsimp only); (exact ⟨HCA.out _ (btr HB4.out HBw7.out), HT1.out _ HBw7.out, HT2.out _ HBw7.out, hid HBw7.out⟩)
  clear hK K
  try simp only [List.getElem_toArray, List.getElem_cons_succ, List.getElem_cons_zero, Act.put, List.setIfInBounds_toArray, List.set_cons_zero, List.set_cons_succ]
  clear a0 a1 a2 a3 a4 a5 f0 f1 f2 f3 f4 f5 t0 t1 t2 t3 t4 t5 HBx
  obtain ⟨⟨a0, a1, a2, a3, a4, a5⟩, ⟨f0, f1, f2, f3, f4, f5⟩, ⟨t0, t1, t2, t3, t4, t5⟩, HBx⟩ := hHeld
  refine wpAnyH_ready (rs := [3]) (by kernel_rfl) (by simp) ?_
  refine AllReadyH.cons (o := _) rfl (fun K hK => ?_) AllReadyH.nil
  go_simp
  go_at_call 7; with_reducible refine (CU.out _ (btr HW4.out HBw7.out) _ _ _ _ HP3.out HP4.out).mono ?_; rintro e w8 ⟨rfl, hb8⟩; have HBw8 := hid (btr HBw7.out hb8); clear hb8
  (try go_wp2_with fail)
  refine hK.out _ _ ?_ (fun hHeld => ?_)
  · (try dsimp only); (exact ⟨HCA.out _ (btr HB4.out HBw8.out), HT1.out _ HBw8.out, HT2.out _ HBw8.out, hid HBw8.out⟩)
  clear hK K
  try simp only [List.getElem_toArray, List.getElem_cons_succ, List.getElem_cons_zero, Act.put, List.setIfInBounds_toArray, List.set_cons_zero, List.set_cons_succ]
  clear a0 a1 a2 a3 a4 a5 f0 f1 f2 f3 f4 f5 t0 t1 t2 t3 t4 t5 HBx
  refine' wpAnyH_take (i := 4) (oi := _) (v := _) rfl (by kernel_rfl) (by kernel_rfl) (by kernel_rfl) (fun _ _ _ h => h) (Or.inl ⟨by kernel_rfl, ?hyq18⟩) (by assumption) ?restq18
  case hyq18 => (intro w hSw; (try dsimp only at hSw); go_simp; try (with_reducible rfl))
  try simp only [List.getElem_toArray, List.getElem_cons_succ, List.getElem_cons_zero, Act.put, List.setIfInBounds_toArray, List.set_cons_zero, List.set_cons_succ]
  refine' wpAnyH_take (i := 5) (oi := _) (v := _) rfl (by kernel_rfl) (by kernel_rfl) (by kernel_rfl) (fun _ _ _ h => h) (Or.inl ⟨by kernel_rfl, ?hyq19⟩) (by assumption) ?restq19
  case hyq19 => (intro w hSw; (try dsimp only at hSw); go_simp; try (with_reducible rfl))
  try simp only [List.getElem_toArray, List.getElem_cons_succ, List.getElem_cons_zero, Act.put, List.setIfInBounds_toArray, List.set_cons_zero, List.set_cons_succ]
  refine' wpAnyH_take (i := 6) (oi := _) (v := _) rfl (by kernel_rfl) (by kernel_rfl) (by kernel_rfl) (fun _ _ _ h => h) (Or.inl ⟨by kernel_rfl, ?hyq20⟩) (by assumption) ?restq20
  case hyq20 => (intro w hSw; (try dsimp only at hSw); go_simp; try (with_reducible rfl))
  try simp only [List.getElem_toArray, List.getElem_cons_succ, List.getElem_cons_zero, Act.put, List.setIfInBounds_toArray, List.set_cons_zero, List.set_cons_succ]
  obtain ⟨⟨a0, a1, a2, a3, a4, a5⟩, ⟨f0, f1, f2, f3, f4, f5⟩, ⟨t0, t1, t2, t3, t4, t5⟩, HBx⟩ := hHeld
  refine wpAnyH_ready (rs := [7]) (by kernel_rfl) (by simp) ?_
  refine AllReadyH.cons (o := _) rfl (fun K hK => ?_) AllReadyH.nil
  go_simp
  go_at_call 7; with_reducible refine (CV.out _ X (X + 1 + 1) (HF1.out _ HBw8.out) (HF2.out _ HBw8.out)).mono ?_; rintro e w9 ⟨rfl, hb9⟩; have HBw9 := hid (btr HBw8.out hb9); clear hb9
  (try go_wp2_with fail)
  refine hK.out _ _ ?_ (fun hHeld => ?_)
  · (try dsimp only); (exact ⟨HCA.out _ (btr HB4.out HBw9.out), HT1.out _ HBw9.out, HT2.out _ HBw9.out, hid HBw9.out⟩)
  clear hK K
  try simp only [List.getElem_toArray, List.getElem_cons_succ, List.getElem_cons_zero, Act.put, List.setIfInBounds_toArray, List.set_cons_zero, List.set_cons_succ]
  clear a0 a1 a2 a3 a4 a5 f0 f1 f2 f3 f4 f5 t0 t1 t2 t3 t4 t5 HBx
  refine' wpAnyH_take (i := 8) (oi := _) (v := _) rfl (by kernel_rfl) (by kernel_rfl) (by kernel_rfl) (fun _ _ _ h => h) (Or.inl ⟨by kernel_rfl, ?hyq21⟩) (by assumption) ?restq21
  case hyq21 => (intro w hSw; (try dsimp only at hSw); go_simp; try (with_reducible rfl))
  try simp only [List.getElem_toArray, List.getElem_cons_succ, List.getElem_cons_zero, Act.put, List.setIfInBounds_toArray, List.set_cons_zero, List.set_cons_succ]
  refine' wpAnyH_take (i := 9) (oi := _) (v := _) rfl (by kernel_rfl) (by kernel_rfl) (by kernel_rfl) (fun _ _ _ h => h) (Or.inl ⟨by kernel_rfl, ?hyq22⟩) (by assumption) ?restq22
  case hyq22 => (intro w hSw; (try dsimp only at hSw); go_simp; try (with_reducible rfl))
  try simp only [List.getElem_toArray, List.getElem_cons_succ, List.getElem_cons_zero, Act.put, List.setIfInBounds_toArray, List.set_cons_zero, List.set_cons_succ]
  refine' wpAnyH_take (i := 10) (oi := _) (v := _) rfl (by kernel_rfl) (by kernel_rfl) (by kernel_rfl) (fun _ _ _ h => h) (Or.inl ⟨by kernel_rfl, ?hyq23⟩) (by assumption) ?restq23
  case hyq23 => (intro w hSw; (try dsimp only at hSw); go_simp; try (with_reducible rfl))
  try simp only [List.getElem_toArray, List.getElem_cons_succ, List.getElem_cons_zero, Act.put, List.setIfInBounds_toArray, List.set_cons_zero, List.set_cons_succ]
  refine' wpAnyH_take (i := 11) (oi := _) (v := _) rfl (by kernel_rfl) (by kernel_rfl) (by kernel_rfl) (fun _ _ _ h => h) (Or.inl ⟨by kernel_rfl, ?hyq24⟩) (by assumption) ?restq24
  case hyq24 => (intro w hSw; (try dsimp only at hSw); go_simp; try (with_reducible rfl))
  try simp only [List.getElem_toArray, List.getElem_cons_succ, List.getElem_cons_zero, Act.put, List.setIfInBounds_toArray, List.set_cons_zero, List.set_cons_succ]
  obtain ⟨⟨a0, a1, a2, a3, a4, a5⟩, ⟨f0, f1, f2, f3, f4, f5⟩, ⟨t0, t1, t2, t3, t4, t5⟩, HBx⟩ := hHeld
  refine wpAnyH_ready (rs := [12]) (by kernel_rfl) (by simp) ?_
  refine AllReadyH.cons (o := _) rfl (fun K hK => ?_) AllReadyH.nil
  go_simp
  skip
  (try go_wp2_with fail)
  refine hK.out _ _ ?_ (fun hHeld => ?_)
  · (try dsimp only); (exact ⟨HCA.out _ (btr HB4.out (btr HBw9.out (ball _ _))), HT1.out _ (btr HBw9.out (ball _ _)), HT2.out _ (btr HBw9.out (ball _ _)), hid (btr HBw9.out (ball _ _))⟩)
  clear hK K
  try simp only [List.getElem_toArray, List.getElem_cons_succ, List.getElem_cons_zero, Act.put, List.setIfInBounds_toArray, List.set_cons_zero, List.set_cons_succ]
  clear a0 a1 a2 a3 a4 a5 f0 f1 f2 f3 f4 f5 t0 t1 t2 t3 t4 t5 HBx
  refine' wpAnyH_take (i := 13) (oi := _) (v := _) rfl (by kernel_rfl) (by kernel_rfl) (by kernel_rfl) (fun _ _ _ h => h) (Or.inl ⟨by kernel_rfl, ?hyq25⟩) (by assumption) ?restq25
  case hyq25 => (intro w hSw; (try dsimp only at hSw); go_simp; try (with_reducible rfl))
  try simp only [List.getElem_toArray, List.getElem_cons_succ, List.getElem_cons_zero, Act.put, List.setIfInBounds_toArray, List.set_cons_zero, List.set_cons_succ]
  obtain ⟨⟨a0, a1, a2, a3, a4, a5⟩, ⟨f0, f1, f2, f3, f4, f5⟩, ⟨t0, t1, t2, t3, t4, t5⟩, HBx⟩ := hHeld
  refine wpAnyH_ready (rs := [14]) (by kernel_rfl) (by simp) ?_
  refine AllReadyH.cons (o := _) rfl (fun K hK => ?_) AllReadyH.nil
  go_simp
  go_at_call 7; with_reducible refine (CX.out _ _).mono ?_; rintro e wA ⟨rfl, hbA⟩; have HBwA := hid (btr HBx.out hbA); clear hbA
  (try go_wp2_with fail)
  refine hK.out _ _ ?_ (fun hHeld => ?_)
  · (try dsimp only); (exact ⟨HCA.out _ (btr HB4.out HBwA.out), HT1.out _ HBwA.out, HT2.out _ HBwA.out, hid HBwA.out⟩)
  clear hK K
  try simp only [List.getElem_toArray, List.getElem_cons_succ, List.getElem_cons_zero, Act.put, List.setIfInBounds_toArray, List.set_cons_zero, List.set_cons_succ]
  clear a0 a1 a2 a3 a4 a5 f0 f1 f2 f3 f4 f5 t0 t1 t2 t3 t4 t5 HBx
  refine' wpAnyH_take (i := 15) (oi := _) (v := _) rfl (by kernel_rfl) (by kernel_rfl) (by kernel_rfl) (fun _ _ _ h => h) (Or.inl ⟨by kernel_rfl, ?hyq26⟩) (by assumption) ?restq26
  case hyq26 => (intro w hSw; (try dsimp only at hSw); go_simp; try (with_reducible rfl))
  try simp only [List.getElem_toArray, List.getElem_cons_succ, List.getElem_cons_zero, Act.put, List.setIfInBounds_toArray, List.set_cons_zero, List.set_cons_succ]
  refine' wpAnyH_take (i := 16) (oi := _) (v := _) rfl (by kernel_rfl) (by kernel_rfl) (by kernel_rfl) (fun _ _ _ h => h) (Or.inl ⟨by kernel_rfl, ?hyq27⟩) (by assumption) ?restq27
  case hyq27 => (intro w hSw; (try dsimp only at hSw); go_simp; try (with_reducible rfl))
  try simp only [List.getElem_toArray, List.getElem_cons_succ, List.getElem_cons_zero, Act.put, List.setIfInBounds_toArray, List.set_cons_zero, List.set_cons_succ]
  refine wpAnyH_done (by kernel_rfl) ?_ _
  go_wp2
  go_ret
  exact ⟨rfl, btr HW4.out HBwA.out⟩
end Go.Proofs.Ytopfgoifmcjcaaa
