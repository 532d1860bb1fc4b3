/-
  RuRz
-/
import Derived.Test.YtalgndgoedlpoaaRuRw
namespace Go.Proofs.Ytalgndgoedlpoaa
open Go.RowKit Go.Deep Go.Shelf
set_option linter.unusedVariables false
set_option linter.unusedSimpArgs false
set_option maxHeartbeats 8000000
set_option maxRecDepth 100000
attribute [local go_sem ↓] Go.wp_at_zero Go.wp_at_succ
theorem rv_nil (w : World) : Rv w (.slice none 0 0) [] := World.ownsRow_nil _ _ _ _
/-- the end of a trial. -/
structure Wh (o : Or) (s q : Int) (b : Bs) (U w : World) (d2 : Db) (p2 : Option Addr) (n2 c2 : Nat) : Prop where
 be : Below U.heap.size U w
 en : (cms o s (mes b s q + 1) (b, [], q)).2.1.length = n2
 rv : Rv w (.slice p2 n2 c2) (cms o s (mes b s q + 1) (b, [], q)).2.1
theorem trial {b : Bs} {d : Db} {o : Or} {s q : Int} (hs : s = 1 ∨ s = 2) (hd : Dof d b) (hvb : Vb b) (hpk : Pk b) (hq0 : 0 ≤ q) (hq1 : q < 4294967296) (hm : 0 ≤ b.meet ∧ b.meet ≤ 3) (hle : 2 * mes b s q ≤ 17179869180) (x1 x2 : Option Addr) (y1 y2 : Nat) (U : World) (h1 : Rw U (.slice x1 d.o1.length y1) d.o1) (h2 : Rw U (.slice x2 d.o2.length y2) d.o2) (l1 : d.o1.length ≤ 1048576) (l2 : d.o2.length ≤ 1048576) :
  Calls Try.prog 56 #[.agg #[.int .i64 d.cap, .int .i64 d.meet, .slice x1 d.o1.length y1, .slice x2 d.o2.length y2, .int .u64 d.high, .int .u64 d.seq, .slice none 0 0], .agg #[.int .u64 o.id, .int .u64 q, .int .u64 o.pk, .int .u32 o.mb, .int .i64 s, .int .i64 o.ty, .int .i64 o.pr]] U fun e w' => ∃ d2 p2 n2 c2 qz, e = .returned (.tuple #[.agg #[.int .i64 d2.cap, .int .i64 d2.meet, .slice d2.p1 d2.o1.length d2.c1, .slice d2.p2 d2.o2.length d2.c2, .int .u64 d2.high, .int .u64 d2.seq, .slice p2 n2 c2], .agg #[.int .u64 o.id, .int .u64 qz, .int .u64 o.pk, .int .u32 o.mb, .int .i64 s, .int .i64 o.ty, .int .i64 o.pr]]) ∧ Hid (Wh o s q b U w' d2 p2 n2 c2) := by
 refine (dtrades_any b ⟨d.cap, d.meet, x1, y1, d.o1, x2, y2, d.o2, d.high, d.seq⟩ o s q none 0 0 [] U hs ⟨hd.cap, hd.meet, hd.o1, hd.o2, hd.high, hd.seq⟩ ⟨h1, h2, l1, l2⟩ hvb hpk hq0 hq1 hm rfl (rv_nil U) (by simpa using hle)).mono ?_
 rintro e w' ⟨d2, p2, n2, c2, rfl, j1, j2, j3, j4, j5, _, j6⟩
 exact ⟨d2, p2, n2, c2, _, rfl, hid ⟨j6, j3, j4⟩⟩
theorem dwhole_any (b : Bs) (d : Db) (o : Or) (s q : Int) (w : World) (hs : s = 1 ∨ s = 2) (hd : Dof d b) (h : Dm w d) (hvb : Vb b) (hpk : Pk b) (hq0 : 0 ≤ q) (hq1 : q < 4294967296) (hm : 0 ≤ b.meet ∧ b.meet ≤ 3) (hle : 2 * mes b s q ≤ 17179869180) :
  Calls Try.prog 55 #[.agg #[.int .i64 d.cap, .int .i64 d.meet, .slice d.p1 d.o1.length d.c1, .slice d.p2 d.o2.length d.c2, .int .u64 d.high, .int .u64 d.seq], .agg #[.int .u64 o.id, .int .u64 q, .int .u64 o.pk, .int .u32 o.mb, .int .i64 s, .int .i64 o.ty, .int .i64 o.pr]] w fun e w' => e = .returned (.bool (trd (cms o s (mes b s q + 1) (b, [], q)).2.1 == q)) ∧ Below w.heap.size w w' := by
 have CC := hid (fun (U : World) (hU : Below w.heap.size w U) => (show Calls Try.prog 28 #[.agg #[.int .i64 d.cap, .int .i64 d.meet, .slice d.p1 d.o1.length d.c1, .slice d.p2 d.o2.length d.c2, .int .u64 d.high, .int .u64 d.seq]] U fun e w' => ∃ x1 x2 y1 y2, e = .returned (.agg #[.int .i64 d.cap, .int .i64 d.meet, .slice x1 d.o1.length y1, .slice x2 d.o2.length y2, .int .u64 d.high, .int .u64 d.seq]) ∧ Hid (Rw w' (.slice x1 d.o1.length y1) d.o1) ∧ Hid (Rw w' (.slice x2 d.o2.length y2) d.o2) ∧ Hid (Below U.heap.size U w') from by
  refine (dcopyN_any d.cap d.meet d.high d.seq d.p1 d.p2 d.o1.length d.o2.length d.c1 d.c2 d.o1 d.o2 U (h.on hU).r1 (h.on hU).r2 h.l1 h.l2).mono ?_
  rintro e w' ⟨x1, x2, y1, y2, rfl, k1, k2, k3, _, _⟩
  exact ⟨x1, x2, y1, y2, rfl, hid k1, hid k2, hid k3⟩))
 have CT := hid (fun (x1 x2 : Option Addr) (y1 y2 : Nat) (U : World) (h1 : Rw U (.slice x1 d.o1.length y1) d.o1) (h2 : Rw U (.slice x2 d.o2.length y2) d.o2) => trial (o := o) hs hd hvb hpk hq0 hq1 hm hle x1 x2 y1 y2 U h1 h2 h.l1 h.l2)
 have HTR := hid (cms_trd (o := o) hs (mes b s q + 1) b [] q hvb hq0 (fun e he => by cases he))
 have hz := (cms_good (o := o) hs (mes b s q + 1) b [] q hvb hq0).2.2.2.1
 have HZ := hid hz
 obtain ⟨es, hes⟩ : ∃ es, (cms o s (mes b s q + 1) (b, [], q)).2.1 = es := ⟨_, rfl⟩
 have HES := hid hes
 rw [hes] at HTR ⊢
 have HPOS := hid HTR.out.1
 have HQT := hid (show trd es ≤ q from by have a := HTR.out.2; have b := HZ.out; simp [trd] at a; omega)
 obtain ⟨R, hR⟩ : ∃ R, w.heap.size = R := ⟨_, rfl⟩
 obtain ⟨U0, hU0⟩ : ∃ U, w.alloc (.cells #[.int .i64 d.cap, .int .i64 d.meet, .slice d.p1 d.o1.length d.c1, .slice d.p2 d.o2.length d.c2, .int .u64 d.high, .int .u64 d.seq] 32) = U := ⟨_, rfl⟩
 obtain ⟨W, hW⟩ : ∃ U, U0.alloc (.cells #[.int .u64 o.id, .int .u64 q, .int .u64 o.pk, .int .u32 o.mb, .int .i64 s, .int .i64 o.ty, .int .i64 o.pr] 78) = U := ⟨_, rfl⟩
 have s0 : U0.heap.size = R + 1 := by rw [← hU0, ← hR]; simp
 have hbW : Below w.heap.size w W := by rw [← hW, ← hU0]; exact btr (ball _ _) (ball _ _)
 have HA := hid (show W.heap[R]? = some (.cells #[.int .i64 d.cap, .int .i64 d.meet, .slice d.p1 d.o1.length d.c1, .slice d.p2 d.o2.length d.c2, .int .u64 d.high, .int .u64 d.seq] 32 (0, 0)) from by rw [← hW]; exact row_on (by rw [← hU0, ← hR]; exact World.alloc_heap_new _ _) (ball _ _))
 have HB := hid (show W.heap[R + 1]? = some (.cells #[.int .u64 o.id, .int .u64 q, .int .u64 o.pk, .int .u32 o.mb, .int .i64 s, .int .i64 o.ty, .int .i64 o.pr] 78 (0, 0)) from by rw [← hW, ← s0]; exact World.alloc_heap_new _ _)
 have HU0 := hid hU0
 have HW := hid hW
 have HRR := hid hR
 have HBW := hid hbW
 have HCA := hid (fun (U : World) (hU : Below W.heap.size W U) => row6 (row_on HA.out hU))
 have HCB := hid (fun (U : World) (hU : Below W.heap.size W U) => row7 (row_on HB.out hU))
 have HQ1 := hid hq1
 have HQ0 := hid hq0
 clear hR hU0 hW s0 hbW h hd hvb hpk hq0 hq1 hm hle hz hes
 go_enter Try.func55, Try.ntmps55
 go_upto_region 1 with fail
 rw [HU0.out, HW.out, HRR.out]
 have B0 := hid (bdrew1 W)
 refine wp_region_held_drew (S := (fun U => (U.cell? ⟨R, 0, none⟩ = some (.int .i64 d.cap) ∧ U.cell? ⟨R, 1, none⟩ = some (.int .i64 d.meet) ∧ U.cell? ⟨R, 2, none⟩ = some (.slice d.p1 d.o1.length d.c1) ∧ U.cell? ⟨R, 3, none⟩ = some (.slice d.p2 d.o2.length d.c2) ∧ U.cell? ⟨R, 4, none⟩ = some (.int .u64 d.high) ∧ U.cell? ⟨R, 5, none⟩ = some (.int .u64 d.seq)) ∧ (U.cell? ⟨R + 1, 0, none⟩ = some (.int .u64 o.id) ∧ U.cell? ⟨R + 1, 1, none⟩ = some (.int .u64 q) ∧ U.cell? ⟨R + 1, 2, none⟩ = some (.int .u64 o.pk) ∧ U.cell? ⟨R + 1, 3, none⟩ = some (.int .u32 o.mb) ∧ U.cell? ⟨R + 1, 4, none⟩ = some (.int .i64 s) ∧ U.cell? ⟨R + 1, 5, none⟩ = some (.int .i64 o.ty) ∧ U.cell? ⟨R + 1, 6, none⟩ = some (.int .i64 o.pr)))) (by kernel_rfl) ?_ (fun hHeld => ?_)
 ·(try dsimp only); (exact ⟨HCA.out _ (bdrew1 _), HCB.out _ (bdrew1 _)⟩)
 obtain ⟨V0, hV0⟩ : ∃ X, W.drew = X := ⟨_, rfl⟩
 rw [hV0] at B0 hHeld ⊢
 clear hV0
 refine' wpAnyH_take (i := 0) (oi := _) (v := _) rfl (by kernel_rfl) (by kernel_rfl) (by kernel_rfl) (fun _ _ _ h => h) (Or.inl ⟨by kernel_rfl, ?_⟩) (by assumption) ?_
 rotate_left
 ·(intro w hSw; (try dsimp only at hSw); go_simp; try (with_reducible rfl))
 try simp only [List.getElem_toArray, List.getElem_cons_succ, List.getElem_cons_zero, Act.put, List.setIfInBounds_toArray, List.set_cons_zero, List.set_cons_succ]
 refine' wpAnyH_take (i := 3) (oi := _) (v := _) rfl (by kernel_rfl) (by kernel_rfl) (by kernel_rfl) (fun _ _ _ h => h) (Or.inl ⟨by kernel_rfl, ?_⟩) (by assumption) ?_
 rotate_left
 ·(intro w hSw; (try dsimp only at hSw); go_simp; try (with_reducible rfl))
 try simp only [List.getElem_toArray, List.getElem_cons_succ, List.getElem_cons_zero, Act.put, List.setIfInBounds_toArray, List.set_cons_zero, List.set_cons_succ]
 refine wpAnyH_ready (rs := [1, 8, 9]) (by kernel_rfl) (by simp) ?_
 refine (AllReadyH.cons (o := _) rfl (fun K hK => ?_) (AllReadyH.cons (o := _) rfl (fun K hK => ?_) (AllReadyH.cons (o := _) rfl (fun K hK => ?_) AllReadyH.nil)))
 focus
  go_simp
  go_at_call 28; with_reducible refine (CC.out _ (btr HBW.out B0.out)).mono ?_; rintro e X1 ⟨x1, x2, y1, y2, rfl, RAX1, RBX1, BBX1⟩
  (try go_wp2_with fail)
  have BX1 := hid (btr B0.out BBX1.out)
  refine hK.out _ _ ?_ (fun hHeld => ?_)
  ·(try dsimp only); exact ⟨HCA.out _ (BX1.out), HCB.out _ (BX1.out)⟩
  clear hK K
  try simp only [List.getElem_toArray, List.getElem_cons_succ, List.getElem_cons_zero, Act.put, List.setIfInBounds_toArray, List.set_cons_zero, List.set_cons_succ]
  refine' wpAnyH_take (i := 2) (oi := _) (v := _) rfl (by kernel_rfl) (by kernel_rfl) (by kernel_rfl) (fun _ _ _ h => h) (Or.inl ⟨by kernel_rfl, ?_⟩) (by assumption) ?_
  rotate_left
  ·(intro w hSw; (try dsimp only at hSw); go_simp; try (with_reducible rfl))
  try simp only [List.getElem_toArray, List.getElem_cons_succ, List.getElem_cons_zero, Act.put, List.setIfInBounds_toArray, List.set_cons_zero, List.set_cons_succ]
  refine wpAnyH_ready (rs := [4, 8, 9]) (by kernel_rfl) (by simp) ?_
  refine (AllReadyH.cons (o := _) rfl (fun K hK => ?_) (AllReadyH.cons (o := _) rfl (fun K hK => ?_) (AllReadyH.cons (o := _) rfl (fun K hK => ?_) AllReadyH.nil)))
  focus
   go_simp
   go_at_call 56; with_reducible refine (CT.out x1 x2 y1 y2 _ RAX1.out RBX1.out).mono ?_; rintro e X4 ⟨d2, p2, n2, c2, qz, rfl, WWX4⟩
   (try go_wp2_with fail)
   have BX4 := hid (btr BX1.out WWX4.out.be)
   have WHX4 := hid WWX4.out.rv
   have WN := hid WWX4.out.en
   refine hK.out _ _ ?_ (fun hHeld => ?_)
   ·(try dsimp only); exact ⟨HCA.out _ (BX4.out), HCB.out _ (BX4.out)⟩
   clear hK K
   try simp only [List.getElem_toArray, List.getElem_cons_succ, List.getElem_cons_zero, Act.put, List.setIfInBounds_toArray, List.set_cons_zero, List.set_cons_succ]
   refine' wpAnyH_take (i := 5) (oi := _) (v := _) rfl (by kernel_rfl) (by kernel_rfl) (by kernel_rfl) (fun _ _ _ h => h) (Or.inl ⟨by kernel_rfl, ?_⟩) (by assumption) ?_
   rotate_left
   ·(intro w hSw; (try dsimp only at hSw); go_simp; try (with_reducible rfl))
   try simp only [List.getElem_toArray, List.getElem_cons_succ, List.getElem_cons_zero, Act.put, List.setIfInBounds_toArray, List.set_cons_zero, List.set_cons_succ]
   refine' wpAnyH_take (i := 6) (oi := _) (v := _) rfl (by kernel_rfl) (by kernel_rfl) (by kernel_rfl) (fun _ _ _ h => h) (Or.inl ⟨by kernel_rfl, ?_⟩) (by assumption) ?_
   rotate_left
   ·(intro w hSw; (try dsimp only at hSw); go_simp; try (with_reducible rfl))
   try simp only [List.getElem_toArray, List.getElem_cons_succ, List.getElem_cons_zero, Act.put, List.setIfInBounds_toArray, List.set_cons_zero, List.set_cons_succ]
   refine' wpAnyH_take (i := 7) (oi := _) (v := _) rfl (by kernel_rfl) (by kernel_rfl) (by kernel_rfl) (fun _ _ _ h => h) (Or.inl ⟨by kernel_rfl, ?_⟩) (by assumption) ?_
   rotate_left
   ·(intro w hSw; (try dsimp only at hSw); go_simp; try (with_reducible rfl))
   try simp only [List.getElem_toArray, List.getElem_cons_succ, List.getElem_cons_zero, Act.put, List.setIfInBounds_toArray, List.set_cons_zero, List.set_cons_succ]
   refine wpAnyH_ready (rs := [8, 9]) (by kernel_rfl) (by simp) ?_
   refine (AllReadyH.cons (o := _) rfl (fun K hK => ?_) (AllReadyH.cons (o := _) rfl (fun K hK => ?_) AllReadyH.nil))
   focus
    go_simp
    refine hK.out _ _ ?_ (fun hHeld => ?_)
    ·(try dsimp only); exact ⟨HCA.out _ (btr BX4.out (ball _ _)), HCB.out _ (btr BX4.out (ball _ _))⟩
    clear hK K
    try simp only [List.getElem_toArray, List.getElem_cons_succ, List.getElem_cons_zero, Act.put, List.setIfInBounds_toArray, List.set_cons_zero, List.set_cons_succ]
    obtain ⟨X8, hX8⟩ : ∃ X, X4.alloc (.cells #[.int .i64 0, .int .i64 0, .slice none 0 0, .slice none 0 0, .int .u64 0, .int .u64 0, .slice none 0 0] 74) = X := ⟨_, rfl⟩
    have bX8 : Below X4.heap.size X4 X8 := by rw [← hX8]; exact ball _ _
    have BX8 := hid (btr BX4.out bX8)
    have zX8 := World.alloc_heap_new X4 (.cells #[.int .i64 0, .int .i64 0, .slice none 0 0, .slice none 0 0, .int .u64 0, .int .u64 0, .slice none 0 0] 74)
    have yX8 := BX4.out.size
    obtain ⟨g8, hg8⟩ : ∃ g, X4.heap.size = g := ⟨_, rfl⟩
    rw [hX8, hg8] at zX8
    rw [hg8] at yX8
    rw [hX8, hg8]
    have WHX8 := hid (WHX4.out.on (bX8))
    have Z5X8 := hid zX8
    clear hX8 hg8 zX8
    refine wpAnyH_ready (rs := [9]) (by kernel_rfl) (by simp) ?_
    refine (AllReadyH.cons (o := _) rfl (fun K hK => ?_) AllReadyH.nil)
    go_simp
    refine hK.out _ _ ?_ (fun hHeld => ?_)
    ·(try dsimp only); exact ⟨HCA.out _ (btr BX8.out (ball _ _)), HCB.out _ (btr BX8.out (ball _ _))⟩
    clear hK K
    try simp only [List.getElem_toArray, List.getElem_cons_succ, List.getElem_cons_zero, Act.put, List.setIfInBounds_toArray, List.set_cons_zero, List.set_cons_succ]
    obtain ⟨X9, hX9⟩ : ∃ X, X8.alloc (.cells #[.int .u64 0, .int .u64 0, .int .u64 0, .int .u32 0, .int .i64 0, .int .i64 0, .int .i64 0] 78) = X := ⟨_, rfl⟩
    have bX9 : Below X8.heap.size X8 X9 := by rw [← hX9]; exact ball _ _
    have BX9 := hid (btr BX8.out bX9)
    have zX9 := World.alloc_heap_new X8 (.cells #[.int .u64 0, .int .u64 0, .int .u64 0, .int .u32 0, .int .i64 0, .int .i64 0, .int .i64 0] 78)
    have yX9 := BX8.out.size
    obtain ⟨g9, hg9⟩ : ∃ g, X8.heap.size = g := ⟨_, rfl⟩
    rw [hX9, hg9] at zX9
    rw [hg9] at yX9
    rw [hX9, hg9]
    have Z5X9 := hid (row_on Z5X8.out (bX9))
    have WHX9 := hid (WHX8.out.on (bX9))
    have Z6X9 := hid zX9
    clear hX9 hg9 zX9
    have ZZ5 := Z5X9
    have ZZ6 := Z6X9
    have ZB := BX9
    have ZW := WHX9
    obtain ⟨WL, hWL⟩ : ∃ X, X9 = X := ⟨_, rfl⟩
    rw [hWL] at ZZ5 ZZ6 ZB ZW ⊢
    clear hWL hHeld
   rotate_left 1
   focus
    go_simp
    refine hK.out _ _ ?_ (fun hHeld => ?_)
    ·(try dsimp only); exact ⟨HCA.out _ (btr BX4.out (ball _ _)), HCB.out _ (btr BX4.out (ball _ _))⟩
    clear hK K
    try simp only [List.getElem_toArray, List.getElem_cons_succ, List.getElem_cons_zero, Act.put, List.setIfInBounds_toArray, List.set_cons_zero, List.set_cons_succ]
    obtain ⟨X9, hX9⟩ : ∃ X, X4.alloc (.cells #[.int .u64 0, .int .u64 0, .int .u64 0, .int .u32 0, .int .i64 0, .int .i64 0, .int .i64 0] 78) = X := ⟨_, rfl⟩
    have bX9 : Below X4.heap.size X4 X9 := by rw [← hX9]; exact ball _ _
    have BX9 := hid (btr BX4.out bX9)
    have zX9 := World.alloc_heap_new X4 (.cells #[.int .u64 0, .int .u64 0, .int .u64 0, .int .u32 0, .int .i64 0, .int .i64 0, .int .i64 0] 78)
    have yX9 := BX4.out.size
    obtain ⟨g9, hg9⟩ : ∃ g, X4.heap.size = g := ⟨_, rfl⟩
    rw [hX9, hg9] at zX9
    rw [hg9] at yX9
    rw [hX9, hg9]
    have WHX9 := hid (WHX4.out.on (bX9))
    have Z6X9 := hid zX9
    clear hX9 hg9 zX9
    refine wpAnyH_ready (rs := [8]) (by kernel_rfl) (by simp) ?_
    refine (AllReadyH.cons (o := _) rfl (fun K hK => ?_) AllReadyH.nil)
    go_simp
    refine hK.out _ _ ?_ (fun hHeld => ?_)
    ·(try dsimp only); exact ⟨HCA.out _ (btr BX9.out (ball _ _)), HCB.out _ (btr BX9.out (ball _ _))⟩
    clear hK K
    try simp only [List.getElem_toArray, List.getElem_cons_succ, List.getElem_cons_zero, Act.put, List.setIfInBounds_toArray, List.set_cons_zero, List.set_cons_succ]
    obtain ⟨X8, hX8⟩ : ∃ X, X9.alloc (.cells #[.int .i64 0, .int .i64 0, .slice none 0 0, .slice none 0 0, .int .u64 0, .int .u64 0, .slice none 0 0] 74) = X := ⟨_, rfl⟩
    have bX8 : Below X9.heap.size X9 X8 := by rw [← hX8]; exact ball _ _
    have BX8 := hid (btr BX9.out bX8)
    have zX8 := World.alloc_heap_new X9 (.cells #[.int .i64 0, .int .i64 0, .slice none 0 0, .slice none 0 0, .int .u64 0, .int .u64 0, .slice none 0 0] 74)
    have yX8 := BX9.out.size
    obtain ⟨g8, hg8⟩ : ∃ g, X9.heap.size = g := ⟨_, rfl⟩
    rw [hX8, hg8] at zX8
    rw [hg8] at yX8
    rw [hX8, hg8]
    have Z6X8 := hid (row_on Z6X9.out (bX8))
    have WHX8 := hid (WHX9.out.on (bX8))
    have Z5X8 := hid zX8
    clear hX8 hg8 zX8
    have ZZ5 := Z5X8
    have ZZ6 := Z6X8
    have ZB := BX8
    have ZW := WHX8
    obtain ⟨WL, hWL⟩ : ∃ X, X8 = X := ⟨_, rfl⟩
    rw [hWL] at ZZ5 ZZ6 ZB ZW ⊢
    clear hWL hHeld
   rotate_left 1
  rotate_left 2
  focus
   go_simp
   refine hK.out _ _ ?_ (fun hHeld => ?_)
   ·(try dsimp only); exact ⟨HCA.out _ (btr BX1.out (ball _ _)), HCB.out _ (btr BX1.out (ball _ _))⟩
   clear hK K
   try simp only [List.getElem_toArray, List.getElem_cons_succ, List.getElem_cons_zero, Act.put, List.setIfInBounds_toArray, List.set_cons_zero, List.set_cons_succ]
   obtain ⟨X8, hX8⟩ : ∃ X, X1.alloc (.cells #[.int .i64 0, .int .i64 0, .slice none 0 0, .slice none 0 0, .int .u64 0, .int .u64 0, .slice none 0 0] 74) = X := ⟨_, rfl⟩
   have bX8 : Below X1.heap.size X1 X8 := by rw [← hX8]; exact ball _ _
   have BX8 := hid (btr BX1.out bX8)
   have zX8 := World.alloc_heap_new X1 (.cells #[.int .i64 0, .int .i64 0, .slice none 0 0, .slice none 0 0, .int .u64 0, .int .u64 0, .slice none 0 0] 74)
   have yX8 := BX1.out.size
   obtain ⟨g8, hg8⟩ : ∃ g, X1.heap.size = g := ⟨_, rfl⟩
   rw [hX8, hg8] at zX8
   rw [hg8] at yX8
   rw [hX8, hg8]
   have R1X8 := hid (RAX1.out.on (bX8))
   have R2X8 := hid (RBX1.out.on (bX8))
   have Z5X8 := hid zX8
   clear hX8 hg8 zX8
   refine wpAnyH_ready (rs := [4, 9]) (by kernel_rfl) (by simp) ?_
   refine (AllReadyH.cons (o := _) rfl (fun K hK => ?_) (AllReadyH.cons (o := _) rfl (fun K hK => ?_) AllReadyH.nil))
   focus
    go_simp
    go_at_call 56; with_reducible refine (CT.out x1 x2 y1 y2 _ R1X8.out R2X8.out).mono ?_; rintro e X4 ⟨d2, p2, n2, c2, qz, rfl, WWX4⟩
    (try go_wp2_with fail)
    have BX4 := hid (btr BX8.out WWX4.out.be)
    have Z5X4 := hid (row_on Z5X8.out (WWX4.out.be))
    have WHX4 := hid WWX4.out.rv
    have WN := hid WWX4.out.en
    refine hK.out _ _ ?_ (fun hHeld => ?_)
    ·(try dsimp only); exact ⟨HCA.out _ (BX4.out), HCB.out _ (BX4.out)⟩
    clear hK K
    try simp only [List.getElem_toArray, List.getElem_cons_succ, List.getElem_cons_zero, Act.put, List.setIfInBounds_toArray, List.set_cons_zero, List.set_cons_succ]
    refine' wpAnyH_take (i := 5) (oi := _) (v := _) rfl (by kernel_rfl) (by kernel_rfl) (by kernel_rfl) (fun _ _ _ h => h) (Or.inl ⟨by kernel_rfl, ?_⟩) (by assumption) ?_
    rotate_left
    ·(intro w hSw; (try dsimp only at hSw); go_simp; try (with_reducible rfl))
    try simp only [List.getElem_toArray, List.getElem_cons_succ, List.getElem_cons_zero, Act.put, List.setIfInBounds_toArray, List.set_cons_zero, List.set_cons_succ]
    refine' wpAnyH_take (i := 6) (oi := _) (v := _) rfl (by kernel_rfl) (by kernel_rfl) (by kernel_rfl) (fun _ _ _ h => h) (Or.inl ⟨by kernel_rfl, ?_⟩) (by assumption) ?_
    rotate_left
    ·(intro w hSw; (try dsimp only at hSw); go_simp; try (with_reducible rfl))
    try simp only [List.getElem_toArray, List.getElem_cons_succ, List.getElem_cons_zero, Act.put, List.setIfInBounds_toArray, List.set_cons_zero, List.set_cons_succ]
    refine' wpAnyH_take (i := 7) (oi := _) (v := _) rfl (by kernel_rfl) (by kernel_rfl) (by kernel_rfl) (fun _ _ _ h => h) (Or.inl ⟨by kernel_rfl, ?_⟩) (by assumption) ?_
    rotate_left
    ·(intro w hSw; (try dsimp only at hSw); go_simp; try (with_reducible rfl))
    try simp only [List.getElem_toArray, List.getElem_cons_succ, List.getElem_cons_zero, Act.put, List.setIfInBounds_toArray, List.set_cons_zero, List.set_cons_succ]
    refine wpAnyH_ready (rs := [9]) (by kernel_rfl) (by simp) ?_
    refine (AllReadyH.cons (o := _) rfl (fun K hK => ?_) AllReadyH.nil)
    go_simp
    refine hK.out _ _ ?_ (fun hHeld => ?_)
    ·(try dsimp only); exact ⟨HCA.out _ (btr BX4.out (ball _ _)), HCB.out _ (btr BX4.out (ball _ _))⟩
    clear hK K
    try simp only [List.getElem_toArray, List.getElem_cons_succ, List.getElem_cons_zero, Act.put, List.setIfInBounds_toArray, List.set_cons_zero, List.set_cons_succ]
    obtain ⟨X9, hX9⟩ : ∃ X, X4.alloc (.cells #[.int .u64 0, .int .u64 0, .int .u64 0, .int .u32 0, .int .i64 0, .int .i64 0, .int .i64 0] 78) = X := ⟨_, rfl⟩
    have bX9 : Below X4.heap.size X4 X9 := by rw [← hX9]; exact ball _ _
    have BX9 := hid (btr BX4.out bX9)
    have zX9 := World.alloc_heap_new X4 (.cells #[.int .u64 0, .int .u64 0, .int .u64 0, .int .u32 0, .int .i64 0, .int .i64 0, .int .i64 0] 78)
    have yX9 := BX4.out.size
    obtain ⟨g9, hg9⟩ : ∃ g, X4.heap.size = g := ⟨_, rfl⟩
    rw [hX9, hg9] at zX9
    rw [hg9] at yX9
    rw [hX9, hg9]
    have Z5X9 := hid (row_on Z5X4.out (bX9))
    have WHX9 := hid (WHX4.out.on (bX9))
    have Z6X9 := hid zX9
    clear hX9 hg9 zX9
    have ZZ5 := Z5X9
    have ZZ6 := Z6X9
    have ZB := BX9
    have ZW := WHX9
    obtain ⟨WL, hWL⟩ : ∃ X, X9 = X := ⟨_, rfl⟩
    rw [hWL] at ZZ5 ZZ6 ZB ZW ⊢
    clear hWL hHeld
   rotate_left 1
   focus
    go_simp
    refine hK.out _ _ ?_ (fun hHeld => ?_)
    ·(try dsimp only); exact ⟨HCA.out _ (btr BX8.out (ball _ _)), HCB.out _ (btr BX8.out (ball _ _))⟩
    clear hK K
    try simp only [List.getElem_toArray, List.getElem_cons_succ, List.getElem_cons_zero, Act.put, List.setIfInBounds_toArray, List.set_cons_zero, List.set_cons_succ]
    obtain ⟨X9, hX9⟩ : ∃ X, X8.alloc (.cells #[.int .u64 0, .int .u64 0, .int .u64 0, .int .u32 0, .int .i64 0, .int .i64 0, .int .i64 0] 78) = X := ⟨_, rfl⟩
    have bX9 : Below X8.heap.size X8 X9 := by rw [← hX9]; exact ball _ _
    have BX9 := hid (btr BX8.out bX9)
    have zX9 := World.alloc_heap_new X8 (.cells #[.int .u64 0, .int .u64 0, .int .u64 0, .int .u32 0, .int .i64 0, .int .i64 0, .int .i64 0] 78)
    have yX9 := BX8.out.size
    obtain ⟨g9, hg9⟩ : ∃ g, X8.heap.size = g := ⟨_, rfl⟩
    rw [hX9, hg9] at zX9
    rw [hg9] at yX9
    rw [hX9, hg9]
    have Z5X9 := hid (row_on Z5X8.out (bX9))
    have R1X9 := hid (R1X8.out.on (bX9))
    have R2X9 := hid (R2X8.out.on (bX9))
    have Z6X9 := hid zX9
    clear hX9 hg9 zX9
    refine wpAnyH_ready (rs := [4]) (by kernel_rfl) (by simp) ?_
    refine (AllReadyH.cons (o := _) rfl (fun K hK => ?_) AllReadyH.nil)
    go_simp
    go_at_call 56; with_reducible refine (CT.out x1 x2 y1 y2 _ R1X9.out R2X9.out).mono ?_; rintro e X4 ⟨d2, p2, n2, c2, qz, rfl, WWX4⟩
    (try go_wp2_with fail)
    have BX4 := hid (btr BX9.out WWX4.out.be)
    have Z5X4 := hid (row_on Z5X9.out (WWX4.out.be))
    have Z6X4 := hid (row_on Z6X9.out (WWX4.out.be))
    have WHX4 := hid WWX4.out.rv
    have WN := hid WWX4.out.en
    refine hK.out _ _ ?_ (fun hHeld => ?_)
    ·(try dsimp only); exact ⟨HCA.out _ (BX4.out), HCB.out _ (BX4.out)⟩
    clear hK K
    try simp only [List.getElem_toArray, List.getElem_cons_succ, List.getElem_cons_zero, Act.put, List.setIfInBounds_toArray, List.set_cons_zero, List.set_cons_succ]
    refine' wpAnyH_take (i := 5) (oi := _) (v := _) rfl (by kernel_rfl) (by kernel_rfl) (by kernel_rfl) (fun _ _ _ h => h) (Or.inl ⟨by kernel_rfl, ?_⟩) (by assumption) ?_
    rotate_left
    ·(intro w hSw; (try dsimp only at hSw); go_simp; try (with_reducible rfl))
    try simp only [List.getElem_toArray, List.getElem_cons_succ, List.getElem_cons_zero, Act.put, List.setIfInBounds_toArray, List.set_cons_zero, List.set_cons_succ]
    refine' wpAnyH_take (i := 6) (oi := _) (v := _) rfl (by kernel_rfl) (by kernel_rfl) (by kernel_rfl) (fun _ _ _ h => h) (Or.inl ⟨by kernel_rfl, ?_⟩) (by assumption) ?_
    rotate_left
    ·(intro w hSw; (try dsimp only at hSw); go_simp; try (with_reducible rfl))
    try simp only [List.getElem_toArray, List.getElem_cons_succ, List.getElem_cons_zero, Act.put, List.setIfInBounds_toArray, List.set_cons_zero, List.set_cons_succ]
    refine' wpAnyH_take (i := 7) (oi := _) (v := _) rfl (by kernel_rfl) (by kernel_rfl) (by kernel_rfl) (fun _ _ _ h => h) (Or.inl ⟨by kernel_rfl, ?_⟩) (by assumption) ?_
    rotate_left
    ·(intro w hSw; (try dsimp only at hSw); go_simp; try (with_reducible rfl))
    try simp only [List.getElem_toArray, List.getElem_cons_succ, List.getElem_cons_zero, Act.put, List.setIfInBounds_toArray, List.set_cons_zero, List.set_cons_succ]
    have ZZ5 := Z5X4
    have ZZ6 := Z6X4
    have ZB := BX4
    have ZW := WHX4
    obtain ⟨WL, hWL⟩ : ∃ X, X4 = X := ⟨_, rfl⟩
    rw [hWL] at ZZ5 ZZ6 ZB ZW ⊢
    clear hWL hHeld
   rotate_left 1
  rotate_left 2
  focus
   go_simp
   refine hK.out _ _ ?_ (fun hHeld => ?_)
   ·(try dsimp only); exact ⟨HCA.out _ (btr BX1.out (ball _ _)), HCB.out _ (btr BX1.out (ball _ _))⟩
   clear hK K
   try simp only [List.getElem_toArray, List.getElem_cons_succ, List.getElem_cons_zero, Act.put, List.setIfInBounds_toArray, List.set_cons_zero, List.set_cons_succ]
   obtain ⟨X9, hX9⟩ : ∃ X, X1.alloc (.cells #[.int .u64 0, .int .u64 0, .int .u64 0, .int .u32 0, .int .i64 0, .int .i64 0, .int .i64 0] 78) = X := ⟨_, rfl⟩
   have bX9 : Below X1.heap.size X1 X9 := by rw [← hX9]; exact ball _ _
   have BX9 := hid (btr BX1.out bX9)
   have zX9 := World.alloc_heap_new X1 (.cells #[.int .u64 0, .int .u64 0, .int .u64 0, .int .u32 0, .int .i64 0, .int .i64 0, .int .i64 0] 78)
   have yX9 := BX1.out.size
   obtain ⟨g9, hg9⟩ : ∃ g, X1.heap.size = g := ⟨_, rfl⟩
   rw [hX9, hg9] at zX9
   rw [hg9] at yX9
   rw [hX9, hg9]
   have R1X9 := hid (RAX1.out.on (bX9))
   have R2X9 := hid (RBX1.out.on (bX9))
   have Z6X9 := hid zX9
   clear hX9 hg9 zX9
   refine wpAnyH_ready (rs := [4, 8]) (by kernel_rfl) (by simp) ?_
   refine (AllReadyH.cons (o := _) rfl (fun K hK => ?_) (AllReadyH.cons (o := _) rfl (fun K hK => ?_) AllReadyH.nil))
   focus
    go_simp
    go_at_call 56; with_reducible refine (CT.out x1 x2 y1 y2 _ R1X9.out R2X9.out).mono ?_; rintro e X4 ⟨d2, p2, n2, c2, qz, rfl, WWX4⟩
    (try go_wp2_with fail)
    have BX4 := hid (btr BX9.out WWX4.out.be)
    have Z6X4 := hid (row_on Z6X9.out (WWX4.out.be))
    have WHX4 := hid WWX4.out.rv
    have WN := hid WWX4.out.en
    refine hK.out _ _ ?_ (fun hHeld => ?_)
    ·(try dsimp only); exact ⟨HCA.out _ (BX4.out), HCB.out _ (BX4.out)⟩
    clear hK K
    try simp only [List.getElem_toArray, List.getElem_cons_succ, List.getElem_cons_zero, Act.put, List.setIfInBounds_toArray, List.set_cons_zero, List.set_cons_succ]
    refine' wpAnyH_take (i := 5) (oi := _) (v := _) rfl (by kernel_rfl) (by kernel_rfl) (by kernel_rfl) (fun _ _ _ h => h) (Or.inl ⟨by kernel_rfl, ?_⟩) (by assumption) ?_
    rotate_left
    ·(intro w hSw; (try dsimp only at hSw); go_simp; try (with_reducible rfl))
    try simp only [List.getElem_toArray, List.getElem_cons_succ, List.getElem_cons_zero, Act.put, List.setIfInBounds_toArray, List.set_cons_zero, List.set_cons_succ]
    refine' wpAnyH_take (i := 6) (oi := _) (v := _) rfl (by kernel_rfl) (by kernel_rfl) (by kernel_rfl) (fun _ _ _ h => h) (Or.inl ⟨by kernel_rfl, ?_⟩) (by assumption) ?_
    rotate_left
    ·(intro w hSw; (try dsimp only at hSw); go_simp; try (with_reducible rfl))
    try simp only [List.getElem_toArray, List.getElem_cons_succ, List.getElem_cons_zero, Act.put, List.setIfInBounds_toArray, List.set_cons_zero, List.set_cons_succ]
    refine' wpAnyH_take (i := 7) (oi := _) (v := _) rfl (by kernel_rfl) (by kernel_rfl) (by kernel_rfl) (fun _ _ _ h => h) (Or.inl ⟨by kernel_rfl, ?_⟩) (by assumption) ?_
    rotate_left
    ·(intro w hSw; (try dsimp only at hSw); go_simp; try (with_reducible rfl))
    try simp only [List.getElem_toArray, List.getElem_cons_succ, List.getElem_cons_zero, Act.put, List.setIfInBounds_toArray, List.set_cons_zero, List.set_cons_succ]
    refine wpAnyH_ready (rs := [8]) (by kernel_rfl) (by simp) ?_
    refine (AllReadyH.cons (o := _) rfl (fun K hK => ?_) AllReadyH.nil)
    go_simp
    refine hK.out _ _ ?_ (fun hHeld => ?_)
    ·(try dsimp only); exact ⟨HCA.out _ (btr BX4.out (ball _ _)), HCB.out _ (btr BX4.out (ball _ _))⟩
    clear hK K
    try simp only [List.getElem_toArray, List.getElem_cons_succ, List.getElem_cons_zero, Act.put, List.setIfInBounds_toArray, List.set_cons_zero, List.set_cons_succ]
    obtain ⟨X8, hX8⟩ : ∃ X, X4.alloc (.cells #[.int .i64 0, .int .i64 0, .slice none 0 0, .slice none 0 0, .int .u64 0, .int .u64 0, .slice none 0 0] 74) = X := ⟨_, rfl⟩
    have bX8 : Below X4.heap.size X4 X8 := by rw [← hX8]; exact ball _ _
    have BX8 := hid (btr BX4.out bX8)
    have zX8 := World.alloc_heap_new X4 (.cells #[.int .i64 0, .int .i64 0, .slice none 0 0, .slice none 0 0, .int .u64 0, .int .u64 0, .slice none 0 0] 74)
    have yX8 := BX4.out.size
    obtain ⟨g8, hg8⟩ : ∃ g, X4.heap.size = g := ⟨_, rfl⟩
    rw [hX8, hg8] at zX8
    rw [hg8] at yX8
    rw [hX8, hg8]
    have Z6X8 := hid (row_on Z6X4.out (bX8))
    have WHX8 := hid (WHX4.out.on (bX8))
    have Z5X8 := hid zX8
    clear hX8 hg8 zX8
    have ZZ5 := Z5X8
    have ZZ6 := Z6X8
    have ZB := BX8
    have ZW := WHX8
    obtain ⟨WL, hWL⟩ : ∃ X, X8 = X := ⟨_, rfl⟩
    rw [hWL] at ZZ5 ZZ6 ZB ZW ⊢
    clear hWL hHeld
   rotate_left 1
   focus
    go_simp
    refine hK.out _ _ ?_ (fun hHeld => ?_)
    ·(try dsimp only); exact ⟨HCA.out _ (btr BX9.out (ball _ _)), HCB.out _ (btr BX9.out (ball _ _))⟩
    clear hK K
    try simp only [List.getElem_toArray, List.getElem_cons_succ, List.getElem_cons_zero, Act.put, List.setIfInBounds_toArray, List.set_cons_zero, List.set_cons_succ]
    obtain ⟨X8, hX8⟩ : ∃ X, X9.alloc (.cells #[.int .i64 0, .int .i64 0, .slice none 0 0, .slice none 0 0, .int .u64 0, .int .u64 0, .slice none 0 0] 74) = X := ⟨_, rfl⟩
    have bX8 : Below X9.heap.size X9 X8 := by rw [← hX8]; exact ball _ _
    have BX8 := hid (btr BX9.out bX8)
    have zX8 := World.alloc_heap_new X9 (.cells #[.int .i64 0, .int .i64 0, .slice none 0 0, .slice none 0 0, .int .u64 0, .int .u64 0, .slice none 0 0] 74)
    have yX8 := BX9.out.size
    obtain ⟨g8, hg8⟩ : ∃ g, X9.heap.size = g := ⟨_, rfl⟩
    rw [hX8, hg8] at zX8
    rw [hg8] at yX8
    rw [hX8, hg8]
    have Z6X8 := hid (row_on Z6X9.out (bX8))
    have R1X8 := hid (R1X9.out.on (bX8))
    have R2X8 := hid (R2X9.out.on (bX8))
    have Z5X8 := hid zX8
    clear hX8 hg8 zX8
    refine wpAnyH_ready (rs := [4]) (by kernel_rfl) (by simp) ?_
    refine (AllReadyH.cons (o := _) rfl (fun K hK => ?_) AllReadyH.nil)
    go_simp
    go_at_call 56; with_reducible refine (CT.out x1 x2 y1 y2 _ R1X8.out R2X8.out).mono ?_; rintro e X4 ⟨d2, p2, n2, c2, qz, rfl, WWX4⟩
    (try go_wp2_with fail)
    have BX4 := hid (btr BX8.out WWX4.out.be)
    have Z5X4 := hid (row_on Z5X8.out (WWX4.out.be))
    have Z6X4 := hid (row_on Z6X8.out (WWX4.out.be))
    have WHX4 := hid WWX4.out.rv
    have WN := hid WWX4.out.en
    refine hK.out _ _ ?_ (fun hHeld => ?_)
    ·(try dsimp only); exact ⟨HCA.out _ (BX4.out), HCB.out _ (BX4.out)⟩
    clear hK K
    try simp only [List.getElem_toArray, List.getElem_cons_succ, List.getElem_cons_zero, Act.put, List.setIfInBounds_toArray, List.set_cons_zero, List.set_cons_succ]
    refine' wpAnyH_take (i := 5) (oi := _) (v := _) rfl (by kernel_rfl) (by kernel_rfl) (by kernel_rfl) (fun _ _ _ h => h) (Or.inl ⟨by kernel_rfl, ?_⟩) (by assumption) ?_
    rotate_left
    ·(intro w hSw; (try dsimp only at hSw); go_simp; try (with_reducible rfl))
    try simp only [List.getElem_toArray, List.getElem_cons_succ, List.getElem_cons_zero, Act.put, List.setIfInBounds_toArray, List.set_cons_zero, List.set_cons_succ]
    refine' wpAnyH_take (i := 6) (oi := _) (v := _) rfl (by kernel_rfl) (by kernel_rfl) (by kernel_rfl) (fun _ _ _ h => h) (Or.inl ⟨by kernel_rfl, ?_⟩) (by assumption) ?_
    rotate_left
    ·(intro w hSw; (try dsimp only at hSw); go_simp; try (with_reducible rfl))
    try simp only [List.getElem_toArray, List.getElem_cons_succ, List.getElem_cons_zero, Act.put, List.setIfInBounds_toArray, List.set_cons_zero, List.set_cons_succ]
    refine' wpAnyH_take (i := 7) (oi := _) (v := _) rfl (by kernel_rfl) (by kernel_rfl) (by kernel_rfl) (fun _ _ _ h => h) (Or.inl ⟨by kernel_rfl, ?_⟩) (by assumption) ?_
    rotate_left
    ·(intro w hSw; (try dsimp only at hSw); go_simp; try (with_reducible rfl))
    try simp only [List.getElem_toArray, List.getElem_cons_succ, List.getElem_cons_zero, Act.put, List.setIfInBounds_toArray, List.set_cons_zero, List.set_cons_succ]
    have ZZ5 := Z5X4
    have ZZ6 := Z6X4
    have ZB := BX4
    have ZW := WHX4
    obtain ⟨WL, hWL⟩ : ∃ X, X4 = X := ⟨_, rfl⟩
    rw [hWL] at ZZ5 ZZ6 ZB ZW ⊢
    clear hWL hHeld
   rotate_left 1
  rotate_left 2
 rotate_left 6
 focus
  go_simp
  refine hK.out _ _ ?_ (fun hHeld => ?_)
  ·(try dsimp only); exact ⟨HCA.out _ (btr B0.out (ball _ _)), HCB.out _ (btr B0.out (ball _ _))⟩
  clear hK K
  try simp only [List.getElem_toArray, List.getElem_cons_succ, List.getElem_cons_zero, Act.put, List.setIfInBounds_toArray, List.set_cons_zero, List.set_cons_succ]
  obtain ⟨X8, hX8⟩ : ∃ X, V0.alloc (.cells #[.int .i64 0, .int .i64 0, .slice none 0 0, .slice none 0 0, .int .u64 0, .int .u64 0, .slice none 0 0] 74) = X := ⟨_, rfl⟩
  have bX8 : Below V0.heap.size V0 X8 := by rw [← hX8]; exact ball _ _
  have BX8 := hid (btr B0.out bX8)
  have zX8 := World.alloc_heap_new V0 (.cells #[.int .i64 0, .int .i64 0, .slice none 0 0, .slice none 0 0, .int .u64 0, .int .u64 0, .slice none 0 0] 74)
  have yX8 := B0.out.size
  obtain ⟨g8, hg8⟩ : ∃ g, V0.heap.size = g := ⟨_, rfl⟩
  rw [hX8, hg8] at zX8
  rw [hg8] at yX8
  rw [hX8, hg8]
  have Z5X8 := hid zX8
  clear hX8 hg8 zX8
  refine wpAnyH_ready (rs := [1, 9]) (by kernel_rfl) (by simp) ?_
  refine (AllReadyH.cons (o := _) rfl (fun K hK => ?_) (AllReadyH.cons (o := _) rfl (fun K hK => ?_) AllReadyH.nil))
  focus
   go_simp
   go_at_call 28; with_reducible refine (CC.out _ (btr HBW.out BX8.out)).mono ?_; rintro e X1 ⟨x1, x2, y1, y2, rfl, RAX1, RBX1, BBX1⟩
   (try go_wp2_with fail)
   have BX1 := hid (btr BX8.out BBX1.out)
   have Z5X1 := hid (row_on Z5X8.out (BBX1.out))
   refine hK.out _ _ ?_ (fun hHeld => ?_)
   ·(try dsimp only); exact ⟨HCA.out _ (BX1.out), HCB.out _ (BX1.out)⟩
   clear hK K
   try simp only [List.getElem_toArray, List.getElem_cons_succ, List.getElem_cons_zero, Act.put, List.setIfInBounds_toArray, List.set_cons_zero, List.set_cons_succ]
   refine' wpAnyH_take (i := 2) (oi := _) (v := _) rfl (by kernel_rfl) (by kernel_rfl) (by kernel_rfl) (fun _ _ _ h => h) (Or.inl ⟨by kernel_rfl, ?_⟩) (by assumption) ?_
   rotate_left
   ·(intro w hSw; (try dsimp only at hSw); go_simp; try (with_reducible rfl))
   try simp only [List.getElem_toArray, List.getElem_cons_succ, List.getElem_cons_zero, Act.put, List.setIfInBounds_toArray, List.set_cons_zero, List.set_cons_succ]
   refine wpAnyH_ready (rs := [4, 9]) (by kernel_rfl) (by simp) ?_
   refine (AllReadyH.cons (o := _) rfl (fun K hK => ?_) (AllReadyH.cons (o := _) rfl (fun K hK => ?_) AllReadyH.nil))
   focus
    go_simp
    go_at_call 56; with_reducible refine (CT.out x1 x2 y1 y2 _ RAX1.out RBX1.out).mono ?_; rintro e X4 ⟨d2, p2, n2, c2, qz, rfl, WWX4⟩
    (try go_wp2_with fail)
    have BX4 := hid (btr BX1.out WWX4.out.be)
    have Z5X4 := hid (row_on Z5X1.out (WWX4.out.be))
    have WHX4 := hid WWX4.out.rv
    have WN := hid WWX4.out.en
    refine hK.out _ _ ?_ (fun hHeld => ?_)
    ·(try dsimp only); exact ⟨HCA.out _ (BX4.out), HCB.out _ (BX4.out)⟩
    clear hK K
    try simp only [List.getElem_toArray, List.getElem_cons_succ, List.getElem_cons_zero, Act.put, List.setIfInBounds_toArray, List.set_cons_zero, List.set_cons_succ]
    refine' wpAnyH_take (i := 5) (oi := _) (v := _) rfl (by kernel_rfl) (by kernel_rfl) (by kernel_rfl) (fun _ _ _ h => h) (Or.inl ⟨by kernel_rfl, ?_⟩) (by assumption) ?_
    rotate_left
    ·(intro w hSw; (try dsimp only at hSw); go_simp; try (with_reducible rfl))
    try simp only [List.getElem_toArray, List.getElem_cons_succ, List.getElem_cons_zero, Act.put, List.setIfInBounds_toArray, List.set_cons_zero, List.set_cons_succ]
    refine' wpAnyH_take (i := 6) (oi := _) (v := _) rfl (by kernel_rfl) (by kernel_rfl) (by kernel_rfl) (fun _ _ _ h => h) (Or.inl ⟨by kernel_rfl, ?_⟩) (by assumption) ?_
    rotate_left
    ·(intro w hSw; (try dsimp only at hSw); go_simp; try (with_reducible rfl))
    try simp only [List.getElem_toArray, List.getElem_cons_succ, List.getElem_cons_zero, Act.put, List.setIfInBounds_toArray, List.set_cons_zero, List.set_cons_succ]
    refine' wpAnyH_take (i := 7) (oi := _) (v := _) rfl (by kernel_rfl) (by kernel_rfl) (by kernel_rfl) (fun _ _ _ h => h) (Or.inl ⟨by kernel_rfl, ?_⟩) (by assumption) ?_
    rotate_left
    ·(intro w hSw; (try dsimp only at hSw); go_simp; try (with_reducible rfl))
    try simp only [List.getElem_toArray, List.getElem_cons_succ, List.getElem_cons_zero, Act.put, List.setIfInBounds_toArray, List.set_cons_zero, List.set_cons_succ]
    refine wpAnyH_ready (rs := [9]) (by kernel_rfl) (by simp) ?_
    refine (AllReadyH.cons (o := _) rfl (fun K hK => ?_) AllReadyH.nil)
    go_simp
    refine hK.out _ _ ?_ (fun hHeld => ?_)
    ·(try dsimp only); exact ⟨HCA.out _ (btr BX4.out (ball _ _)), HCB.out _ (btr BX4.out (ball _ _))⟩
    clear hK K
    try simp only [List.getElem_toArray, List.getElem_cons_succ, List.getElem_cons_zero, Act.put, List.setIfInBounds_toArray, List.set_cons_zero, List.set_cons_succ]
    obtain ⟨X9, hX9⟩ : ∃ X, X4.alloc (.cells #[.int .u64 0, .int .u64 0, .int .u64 0, .int .u32 0, .int .i64 0, .int .i64 0, .int .i64 0] 78) = X := ⟨_, rfl⟩
    have bX9 : Below X4.heap.size X4 X9 := by rw [← hX9]; exact ball _ _
    have BX9 := hid (btr BX4.out bX9)
    have zX9 := World.alloc_heap_new X4 (.cells #[.int .u64 0, .int .u64 0, .int .u64 0, .int .u32 0, .int .i64 0, .int .i64 0, .int .i64 0] 78)
    have yX9 := BX4.out.size
    obtain ⟨g9, hg9⟩ : ∃ g, X4.heap.size = g := ⟨_, rfl⟩
    rw [hX9, hg9] at zX9
    rw [hg9] at yX9
    rw [hX9, hg9]
    have Z5X9 := hid (row_on Z5X4.out (bX9))
    have WHX9 := hid (WHX4.out.on (bX9))
    have Z6X9 := hid zX9
    clear hX9 hg9 zX9
    have ZZ5 := Z5X9
    have ZZ6 := Z6X9
    have ZB := BX9
    have ZW := WHX9
    obtain ⟨WL, hWL⟩ : ∃ X, X9 = X := ⟨_, rfl⟩
    rw [hWL] at ZZ5 ZZ6 ZB ZW ⊢
    clear hWL hHeld
   rotate_left 1
   focus
    go_simp
    refine hK.out _ _ ?_ (fun hHeld => ?_)
    ·(try dsimp only); exact ⟨HCA.out _ (btr BX1.out (ball _ _)), HCB.out _ (btr BX1.out (ball _ _))⟩
    clear hK K
    try simp only [List.getElem_toArray, List.getElem_cons_succ, List.getElem_cons_zero, Act.put, List.setIfInBounds_toArray, List.set_cons_zero, List.set_cons_succ]
    obtain ⟨X9, hX9⟩ : ∃ X, X1.alloc (.cells #[.int .u64 0, .int .u64 0, .int .u64 0, .int .u32 0, .int .i64 0, .int .i64 0, .int .i64 0] 78) = X := ⟨_, rfl⟩
    have bX9 : Below X1.heap.size X1 X9 := by rw [← hX9]; exact ball _ _
    have BX9 := hid (btr BX1.out bX9)
    have zX9 := World.alloc_heap_new X1 (.cells #[.int .u64 0, .int .u64 0, .int .u64 0, .int .u32 0, .int .i64 0, .int .i64 0, .int .i64 0] 78)
    have yX9 := BX1.out.size
    obtain ⟨g9, hg9⟩ : ∃ g, X1.heap.size = g := ⟨_, rfl⟩
    rw [hX9, hg9] at zX9
    rw [hg9] at yX9
    rw [hX9, hg9]
    have Z5X9 := hid (row_on Z5X1.out (bX9))
    have R1X9 := hid (RAX1.out.on (bX9))
    have R2X9 := hid (RBX1.out.on (bX9))
    have Z6X9 := hid zX9
    clear hX9 hg9 zX9
    refine wpAnyH_ready (rs := [4]) (by kernel_rfl) (by simp) ?_
    refine (AllReadyH.cons (o := _) rfl (fun K hK => ?_) AllReadyH.nil)
    go_simp
    go_at_call 56; with_reducible refine (CT.out x1 x2 y1 y2 _ R1X9.out R2X9.out).mono ?_; rintro e X4 ⟨d2, p2, n2, c2, qz, rfl, WWX4⟩
    (try go_wp2_with fail)
    have BX4 := hid (btr BX9.out WWX4.out.be)
    have Z5X4 := hid (row_on Z5X9.out (WWX4.out.be))
    have Z6X4 := hid (row_on Z6X9.out (WWX4.out.be))
    have WHX4 := hid WWX4.out.rv
    have WN := hid WWX4.out.en
    refine hK.out _ _ ?_ (fun hHeld => ?_)
    ·(try dsimp only); exact ⟨HCA.out _ (BX4.out), HCB.out _ (BX4.out)⟩
    clear hK K
    try simp only [List.getElem_toArray, List.getElem_cons_succ, List.getElem_cons_zero, Act.put, List.setIfInBounds_toArray, List.set_cons_zero, List.set_cons_succ]
    refine' wpAnyH_take (i := 5) (oi := _) (v := _) rfl (by kernel_rfl) (by kernel_rfl) (by kernel_rfl) (fun _ _ _ h => h) (Or.inl ⟨by kernel_rfl, ?_⟩) (by assumption) ?_
    rotate_left
    ·(intro w hSw; (try dsimp only at hSw); go_simp; try (with_reducible rfl))
    try simp only [List.getElem_toArray, List.getElem_cons_succ, List.getElem_cons_zero, Act.put, List.setIfInBounds_toArray, List.set_cons_zero, List.set_cons_succ]
    refine' wpAnyH_take (i := 6) (oi := _) (v := _) rfl (by kernel_rfl) (by kernel_rfl) (by kernel_rfl) (fun _ _ _ h => h) (Or.inl ⟨by kernel_rfl, ?_⟩) (by assumption) ?_
    rotate_left
    ·(intro w hSw; (try dsimp only at hSw); go_simp; try (with_reducible rfl))
    try simp only [List.getElem_toArray, List.getElem_cons_succ, List.getElem_cons_zero, Act.put, List.setIfInBounds_toArray, List.set_cons_zero, List.set_cons_succ]
    refine' wpAnyH_take (i := 7) (oi := _) (v := _) rfl (by kernel_rfl) (by kernel_rfl) (by kernel_rfl) (fun _ _ _ h => h) (Or.inl ⟨by kernel_rfl, ?_⟩) (by assumption) ?_
    rotate_left
    ·(intro w hSw; (try dsimp only at hSw); go_simp; try (with_reducible rfl))
    try simp only [List.getElem_toArray, List.getElem_cons_succ, List.getElem_cons_zero, Act.put, List.setIfInBounds_toArray, List.set_cons_zero, List.set_cons_succ]
    have ZZ5 := Z5X4
    have ZZ6 := Z6X4
    have ZB := BX4
    have ZW := WHX4
    obtain ⟨WL, hWL⟩ : ∃ X, X4 = X := ⟨_, rfl⟩
    rw [hWL] at ZZ5 ZZ6 ZB ZW ⊢
    clear hWL hHeld
   rotate_left 1
  rotate_left 2
  focus
   go_simp
   refine hK.out _ _ ?_ (fun hHeld => ?_)
   ·(try dsimp only); exact ⟨HCA.out _ (btr BX8.out (ball _ _)), HCB.out _ (btr BX8.out (ball _ _))⟩
   clear hK K
   try simp only [List.getElem_toArray, List.getElem_cons_succ, List.getElem_cons_zero, Act.put, List.setIfInBounds_toArray, List.set_cons_zero, List.set_cons_succ]
   obtain ⟨X9, hX9⟩ : ∃ X, X8.alloc (.cells #[.int .u64 0, .int .u64 0, .int .u64 0, .int .u32 0, .int .i64 0, .int .i64 0, .int .i64 0] 78) = X := ⟨_, rfl⟩
   have bX9 : Below X8.heap.size X8 X9 := by rw [← hX9]; exact ball _ _
   have BX9 := hid (btr BX8.out bX9)
   have zX9 := World.alloc_heap_new X8 (.cells #[.int .u64 0, .int .u64 0, .int .u64 0, .int .u32 0, .int .i64 0, .int .i64 0, .int .i64 0] 78)
   have yX9 := BX8.out.size
   obtain ⟨g9, hg9⟩ : ∃ g, X8.heap.size = g := ⟨_, rfl⟩
   rw [hX9, hg9] at zX9
   rw [hg9] at yX9
   rw [hX9, hg9]
   have Z5X9 := hid (row_on Z5X8.out (bX9))
   have Z6X9 := hid zX9
   clear hX9 hg9 zX9
   refine wpAnyH_ready (rs := [1]) (by kernel_rfl) (by simp) ?_
   refine (AllReadyH.cons (o := _) rfl (fun K hK => ?_) AllReadyH.nil)
   go_simp
   go_at_call 28; with_reducible refine (CC.out _ (btr HBW.out BX9.out)).mono ?_; rintro e X1 ⟨x1, x2, y1, y2, rfl, RAX1, RBX1, BBX1⟩
   (try go_wp2_with fail)
   have BX1 := hid (btr BX9.out BBX1.out)
   have Z5X1 := hid (row_on Z5X9.out (BBX1.out))
   have Z6X1 := hid (row_on Z6X9.out (BBX1.out))
   refine hK.out _ _ ?_ (fun hHeld => ?_)
   ·(try dsimp only); exact ⟨HCA.out _ (BX1.out), HCB.out _ (BX1.out)⟩
   clear hK K
   try simp only [List.getElem_toArray, List.getElem_cons_succ, List.getElem_cons_zero, Act.put, List.setIfInBounds_toArray, List.set_cons_zero, List.set_cons_succ]
   refine' wpAnyH_take (i := 2) (oi := _) (v := _) rfl (by kernel_rfl) (by kernel_rfl) (by kernel_rfl) (fun _ _ _ h => h) (Or.inl ⟨by kernel_rfl, ?_⟩) (by assumption) ?_
   rotate_left
   ·(intro w hSw; (try dsimp only at hSw); go_simp; try (with_reducible rfl))
   try simp only [List.getElem_toArray, List.getElem_cons_succ, List.getElem_cons_zero, Act.put, List.setIfInBounds_toArray, List.set_cons_zero, List.set_cons_succ]
   refine wpAnyH_ready (rs := [4]) (by kernel_rfl) (by simp) ?_
   refine (AllReadyH.cons (o := _) rfl (fun K hK => ?_) AllReadyH.nil)
   go_simp
   go_at_call 56; with_reducible refine (CT.out x1 x2 y1 y2 _ RAX1.out RBX1.out).mono ?_; rintro e X4 ⟨d2, p2, n2, c2, qz, rfl, WWX4⟩
   (try go_wp2_with fail)
   have BX4 := hid (btr BX1.out WWX4.out.be)
   have Z5X4 := hid (row_on Z5X1.out (WWX4.out.be))
   have Z6X4 := hid (row_on Z6X1.out (WWX4.out.be))
   have WHX4 := hid WWX4.out.rv
   have WN := hid WWX4.out.en
   refine hK.out _ _ ?_ (fun hHeld => ?_)
   ·(try dsimp only); exact ⟨HCA.out _ (BX4.out), HCB.out _ (BX4.out)⟩
   clear hK K
   try simp only [List.getElem_toArray, List.getElem_cons_succ, List.getElem_cons_zero, Act.put, List.setIfInBounds_toArray, List.set_cons_zero, List.set_cons_succ]
   refine' wpAnyH_take (i := 5) (oi := _) (v := _) rfl (by kernel_rfl) (by kernel_rfl) (by kernel_rfl) (fun _ _ _ h => h) (Or.inl ⟨by kernel_rfl, ?_⟩) (by assumption) ?_
   rotate_left
   ·(intro w hSw; (try dsimp only at hSw); go_simp; try (with_reducible rfl))
   try simp only [List.getElem_toArray, List.getElem_cons_succ, List.getElem_cons_zero, Act.put, List.setIfInBounds_toArray, List.set_cons_zero, List.set_cons_succ]
   refine' wpAnyH_take (i := 6) (oi := _) (v := _) rfl (by kernel_rfl) (by kernel_rfl) (by kernel_rfl) (fun _ _ _ h => h) (Or.inl ⟨by kernel_rfl, ?_⟩) (by assumption) ?_
   rotate_left
   ·(intro w hSw; (try dsimp only at hSw); go_simp; try (with_reducible rfl))
   try simp only [List.getElem_toArray, List.getElem_cons_succ, List.getElem_cons_zero, Act.put, List.setIfInBounds_toArray, List.set_cons_zero, List.set_cons_succ]
   refine' wpAnyH_take (i := 7) (oi := _) (v := _) rfl (by kernel_rfl) (by kernel_rfl) (by kernel_rfl) (fun _ _ _ h => h) (Or.inl ⟨by kernel_rfl, ?_⟩) (by assumption) ?_
   rotate_left
   ·(intro w hSw; (try dsimp only at hSw); go_simp; try (with_reducible rfl))
   try simp only [List.getElem_toArray, List.getElem_cons_succ, List.getElem_cons_zero, Act.put, List.setIfInBounds_toArray, List.set_cons_zero, List.set_cons_succ]
   have ZZ5 := Z5X4
   have ZZ6 := Z6X4
   have ZB := BX4
   have ZW := WHX4
   obtain ⟨WL, hWL⟩ : ∃ X, X4 = X := ⟨_, rfl⟩
   rw [hWL] at ZZ5 ZZ6 ZB ZW ⊢
   clear hWL hHeld
  rotate_left 1
 rotate_left 3
 focus
  go_simp
  refine hK.out _ _ ?_ (fun hHeld => ?_)
  ·(try dsimp only); exact ⟨HCA.out _ (btr B0.out (ball _ _)), HCB.out _ (btr B0.out (ball _ _))⟩
  clear hK K
  try simp only [List.getElem_toArray, List.getElem_cons_succ, List.getElem_cons_zero, Act.put, List.setIfInBounds_toArray, List.set_cons_zero, List.set_cons_succ]
  obtain ⟨X9, hX9⟩ : ∃ X, V0.alloc (.cells #[.int .u64 0, .int .u64 0, .int .u64 0, .int .u32 0, .int .i64 0, .int .i64 0, .int .i64 0] 78) = X := ⟨_, rfl⟩
  have bX9 : Below V0.heap.size V0 X9 := by rw [← hX9]; exact ball _ _
  have BX9 := hid (btr B0.out bX9)
  have zX9 := World.alloc_heap_new V0 (.cells #[.int .u64 0, .int .u64 0, .int .u64 0, .int .u32 0, .int .i64 0, .int .i64 0, .int .i64 0] 78)
  have yX9 := B0.out.size
  obtain ⟨g9, hg9⟩ : ∃ g, V0.heap.size = g := ⟨_, rfl⟩
  rw [hX9, hg9] at zX9
  rw [hg9] at yX9
  rw [hX9, hg9]
  have Z6X9 := hid zX9
  clear hX9 hg9 zX9
  refine wpAnyH_ready (rs := [1, 8]) (by kernel_rfl) (by simp) ?_
  refine (AllReadyH.cons (o := _) rfl (fun K hK => ?_) (AllReadyH.cons (o := _) rfl (fun K hK => ?_) AllReadyH.nil))
  focus
   go_simp
   go_at_call 28; with_reducible refine (CC.out _ (btr HBW.out BX9.out)).mono ?_; rintro e X1 ⟨x1, x2, y1, y2, rfl, RAX1, RBX1, BBX1⟩
   (try go_wp2_with fail)
   have BX1 := hid (btr BX9.out BBX1.out)
   have Z6X1 := hid (row_on Z6X9.out (BBX1.out))
   refine hK.out _ _ ?_ (fun hHeld => ?_)
   ·(try dsimp only); exact ⟨HCA.out _ (BX1.out), HCB.out _ (BX1.out)⟩
   clear hK K
   try simp only [List.getElem_toArray, List.getElem_cons_succ, List.getElem_cons_zero, Act.put, List.setIfInBounds_toArray, List.set_cons_zero, List.set_cons_succ]
   refine' wpAnyH_take (i := 2) (oi := _) (v := _) rfl (by kernel_rfl) (by kernel_rfl) (by kernel_rfl) (fun _ _ _ h => h) (Or.inl ⟨by kernel_rfl, ?_⟩) (by assumption) ?_
   rotate_left
   ·(intro w hSw; (try dsimp only at hSw); go_simp; try (with_reducible rfl))
   try simp only [List.getElem_toArray, List.getElem_cons_succ, List.getElem_cons_zero, Act.put, List.setIfInBounds_toArray, List.set_cons_zero, List.set_cons_succ]
   refine wpAnyH_ready (rs := [4, 8]) (by kernel_rfl) (by simp) ?_
   refine (AllReadyH.cons (o := _) rfl (fun K hK => ?_) (AllReadyH.cons (o := _) rfl (fun K hK => ?_) AllReadyH.nil))
   focus
    go_simp
    go_at_call 56; with_reducible refine (CT.out x1 x2 y1 y2 _ RAX1.out RBX1.out).mono ?_; rintro e X4 ⟨d2, p2, n2, c2, qz, rfl, WWX4⟩
    (try go_wp2_with fail)
    have BX4 := hid (btr BX1.out WWX4.out.be)
    have Z6X4 := hid (row_on Z6X1.out (WWX4.out.be))
    have WHX4 := hid WWX4.out.rv
    have WN := hid WWX4.out.en
    refine hK.out _ _ ?_ (fun hHeld => ?_)
    ·(try dsimp only); exact ⟨HCA.out _ (BX4.out), HCB.out _ (BX4.out)⟩
    clear hK K
    try simp only [List.getElem_toArray, List.getElem_cons_succ, List.getElem_cons_zero, Act.put, List.setIfInBounds_toArray, List.set_cons_zero, List.set_cons_succ]
    refine' wpAnyH_take (i := 5) (oi := _) (v := _) rfl (by kernel_rfl) (by kernel_rfl) (by kernel_rfl) (fun _ _ _ h => h) (Or.inl ⟨by kernel_rfl, ?_⟩) (by assumption) ?_
    rotate_left
    ·(intro w hSw; (try dsimp only at hSw); go_simp; try (with_reducible rfl))
    try simp only [List.getElem_toArray, List.getElem_cons_succ, List.getElem_cons_zero, Act.put, List.setIfInBounds_toArray, List.set_cons_zero, List.set_cons_succ]
    refine' wpAnyH_take (i := 6) (oi := _) (v := _) rfl (by kernel_rfl) (by kernel_rfl) (by kernel_rfl) (fun _ _ _ h => h) (Or.inl ⟨by kernel_rfl, ?_⟩) (by assumption) ?_
    rotate_left
    ·(intro w hSw; (try dsimp only at hSw); go_simp; try (with_reducible rfl))
    try simp only [List.getElem_toArray, List.getElem_cons_succ, List.getElem_cons_zero, Act.put, List.setIfInBounds_toArray, List.set_cons_zero, List.set_cons_succ]
    refine' wpAnyH_take (i := 7) (oi := _) (v := _) rfl (by kernel_rfl) (by kernel_rfl) (by kernel_rfl) (fun _ _ _ h => h) (Or.inl ⟨by kernel_rfl, ?_⟩) (by assumption) ?_
    rotate_left
    ·(intro w hSw; (try dsimp only at hSw); go_simp; try (with_reducible rfl))
    try simp only [List.getElem_toArray, List.getElem_cons_succ, List.getElem_cons_zero, Act.put, List.setIfInBounds_toArray, List.set_cons_zero, List.set_cons_succ]
    refine wpAnyH_ready (rs := [8]) (by kernel_rfl) (by simp) ?_
    refine (AllReadyH.cons (o := _) rfl (fun K hK => ?_) AllReadyH.nil)
    go_simp
    refine hK.out _ _ ?_ (fun hHeld => ?_)
    ·(try dsimp only); exact ⟨HCA.out _ (btr BX4.out (ball _ _)), HCB.out _ (btr BX4.out (ball _ _))⟩
    clear hK K
    try simp only [List.getElem_toArray, List.getElem_cons_succ, List.getElem_cons_zero, Act.put, List.setIfInBounds_toArray, List.set_cons_zero, List.set_cons_succ]
    obtain ⟨X8, hX8⟩ : ∃ X, X4.alloc (.cells #[.int .i64 0, .int .i64 0, .slice none 0 0, .slice none 0 0, .int .u64 0, .int .u64 0, .slice none 0 0] 74) = X := ⟨_, rfl⟩
    have bX8 : Below X4.heap.size X4 X8 := by rw [← hX8]; exact ball _ _
    have BX8 := hid (btr BX4.out bX8)
    have zX8 := World.alloc_heap_new X4 (.cells #[.int .i64 0, .int .i64 0, .slice none 0 0, .slice none 0 0, .int .u64 0, .int .u64 0, .slice none 0 0] 74)
    have yX8 := BX4.out.size
    obtain ⟨g8, hg8⟩ : ∃ g, X4.heap.size = g := ⟨_, rfl⟩
    rw [hX8, hg8] at zX8
    rw [hg8] at yX8
    rw [hX8, hg8]
    have Z6X8 := hid (row_on Z6X4.out (bX8))
    have WHX8 := hid (WHX4.out.on (bX8))
    have Z5X8 := hid zX8
    clear hX8 hg8 zX8
    have ZZ5 := Z5X8
    have ZZ6 := Z6X8
    have ZB := BX8
    have ZW := WHX8
    obtain ⟨WL, hWL⟩ : ∃ X, X8 = X := ⟨_, rfl⟩
    rw [hWL] at ZZ5 ZZ6 ZB ZW ⊢
    clear hWL hHeld
   rotate_left 1
   focus
    go_simp
    refine hK.out _ _ ?_ (fun hHeld => ?_)
    ·(try dsimp only); exact ⟨HCA.out _ (btr BX1.out (ball _ _)), HCB.out _ (btr BX1.out (ball _ _))⟩
    clear hK K
    try simp only [List.getElem_toArray, List.getElem_cons_succ, List.getElem_cons_zero, Act.put, List.setIfInBounds_toArray, List.set_cons_zero, List.set_cons_succ]
    obtain ⟨X8, hX8⟩ : ∃ X, X1.alloc (.cells #[.int .i64 0, .int .i64 0, .slice none 0 0, .slice none 0 0, .int .u64 0, .int .u64 0, .slice none 0 0] 74) = X := ⟨_, rfl⟩
    have bX8 : Below X1.heap.size X1 X8 := by rw [← hX8]; exact ball _ _
    have BX8 := hid (btr BX1.out bX8)
    have zX8 := World.alloc_heap_new X1 (.cells #[.int .i64 0, .int .i64 0, .slice none 0 0, .slice none 0 0, .int .u64 0, .int .u64 0, .slice none 0 0] 74)
    have yX8 := BX1.out.size
    obtain ⟨g8, hg8⟩ : ∃ g, X1.heap.size = g := ⟨_, rfl⟩
    rw [hX8, hg8] at zX8
    rw [hg8] at yX8
    rw [hX8, hg8]
    have Z6X8 := hid (row_on Z6X1.out (bX8))
    have R1X8 := hid (RAX1.out.on (bX8))
    have R2X8 := hid (RBX1.out.on (bX8))
    have Z5X8 := hid zX8
    clear hX8 hg8 zX8
    refine wpAnyH_ready (rs := [4]) (by kernel_rfl) (by simp) ?_
    refine (AllReadyH.cons (o := _) rfl (fun K hK => ?_) AllReadyH.nil)
    go_simp
    go_at_call 56; with_reducible refine (CT.out x1 x2 y1 y2 _ R1X8.out R2X8.out).mono ?_; rintro e X4 ⟨d2, p2, n2, c2, qz, rfl, WWX4⟩
    (try go_wp2_with fail)
    have BX4 := hid (btr BX8.out WWX4.out.be)
    have Z5X4 := hid (row_on Z5X8.out (WWX4.out.be))
    have Z6X4 := hid (row_on Z6X8.out (WWX4.out.be))
    have WHX4 := hid WWX4.out.rv
    have WN := hid WWX4.out.en
    refine hK.out _ _ ?_ (fun hHeld => ?_)
    ·(try dsimp only); exact ⟨HCA.out _ (BX4.out), HCB.out _ (BX4.out)⟩
    clear hK K
    try simp only [List.getElem_toArray, List.getElem_cons_succ, List.getElem_cons_zero, Act.put, List.setIfInBounds_toArray, List.set_cons_zero, List.set_cons_succ]
    refine' wpAnyH_take (i := 5) (oi := _) (v := _) rfl (by kernel_rfl) (by kernel_rfl) (by kernel_rfl) (fun _ _ _ h => h) (Or.inl ⟨by kernel_rfl, ?_⟩) (by assumption) ?_
    rotate_left
    ·(intro w hSw; (try dsimp only at hSw); go_simp; try (with_reducible rfl))
    try simp only [List.getElem_toArray, List.getElem_cons_succ, List.getElem_cons_zero, Act.put, List.setIfInBounds_toArray, List.set_cons_zero, List.set_cons_succ]
    refine' wpAnyH_take (i := 6) (oi := _) (v := _) rfl (by kernel_rfl) (by kernel_rfl) (by kernel_rfl) (fun _ _ _ h => h) (Or.inl ⟨by kernel_rfl, ?_⟩) (by assumption) ?_
    rotate_left
    ·(intro w hSw; (try dsimp only at hSw); go_simp; try (with_reducible rfl))
    try simp only [List.getElem_toArray, List.getElem_cons_succ, List.getElem_cons_zero, Act.put, List.setIfInBounds_toArray, List.set_cons_zero, List.set_cons_succ]
    refine' wpAnyH_take (i := 7) (oi := _) (v := _) rfl (by kernel_rfl) (by kernel_rfl) (by kernel_rfl) (fun _ _ _ h => h) (Or.inl ⟨by kernel_rfl, ?_⟩) (by assumption) ?_
    rotate_left
    ·(intro w hSw; (try dsimp only at hSw); go_simp; try (with_reducible rfl))
    try simp only [List.getElem_toArray, List.getElem_cons_succ, List.getElem_cons_zero, Act.put, List.setIfInBounds_toArray, List.set_cons_zero, List.set_cons_succ]
    have ZZ5 := Z5X4
    have ZZ6 := Z6X4
    have ZB := BX4
    have ZW := WHX4
    obtain ⟨WL, hWL⟩ : ∃ X, X4 = X := ⟨_, rfl⟩
    rw [hWL] at ZZ5 ZZ6 ZB ZW ⊢
    clear hWL hHeld
   rotate_left 1
  rotate_left 2
  focus
   go_simp
   refine hK.out _ _ ?_ (fun hHeld => ?_)
   ·(try dsimp only); exact ⟨HCA.out _ (btr BX9.out (ball _ _)), HCB.out _ (btr BX9.out (ball _ _))⟩
   clear hK K
   try simp only [List.getElem_toArray, List.getElem_cons_succ, List.getElem_cons_zero, Act.put, List.setIfInBounds_toArray, List.set_cons_zero, List.set_cons_succ]
   obtain ⟨X8, hX8⟩ : ∃ X, X9.alloc (.cells #[.int .i64 0, .int .i64 0, .slice none 0 0, .slice none 0 0, .int .u64 0, .int .u64 0, .slice none 0 0] 74) = X := ⟨_, rfl⟩
   have bX8 : Below X9.heap.size X9 X8 := by rw [← hX8]; exact ball _ _
   have BX8 := hid (btr BX9.out bX8)
   have zX8 := World.alloc_heap_new X9 (.cells #[.int .i64 0, .int .i64 0, .slice none 0 0, .slice none 0 0, .int .u64 0, .int .u64 0, .slice none 0 0] 74)
   have yX8 := BX9.out.size
   obtain ⟨g8, hg8⟩ : ∃ g, X9.heap.size = g := ⟨_, rfl⟩
   rw [hX8, hg8] at zX8
   rw [hg8] at yX8
   rw [hX8, hg8]
   have Z6X8 := hid (row_on Z6X9.out (bX8))
   have Z5X8 := hid zX8
   clear hX8 hg8 zX8
   refine wpAnyH_ready (rs := [1]) (by kernel_rfl) (by simp) ?_
   refine (AllReadyH.cons (o := _) rfl (fun K hK => ?_) AllReadyH.nil)
   go_simp
   go_at_call 28; with_reducible refine (CC.out _ (btr HBW.out BX8.out)).mono ?_; rintro e X1 ⟨x1, x2, y1, y2, rfl, RAX1, RBX1, BBX1⟩
   (try go_wp2_with fail)
   have BX1 := hid (btr BX8.out BBX1.out)
   have Z5X1 := hid (row_on Z5X8.out (BBX1.out))
   have Z6X1 := hid (row_on Z6X8.out (BBX1.out))
   refine hK.out _ _ ?_ (fun hHeld => ?_)
   ·(try dsimp only); exact ⟨HCA.out _ (BX1.out), HCB.out _ (BX1.out)⟩
   clear hK K
   try simp only [List.getElem_toArray, List.getElem_cons_succ, List.getElem_cons_zero, Act.put, List.setIfInBounds_toArray, List.set_cons_zero, List.set_cons_succ]
   refine' wpAnyH_take (i := 2) (oi := _) (v := _) rfl (by kernel_rfl) (by kernel_rfl) (by kernel_rfl) (fun _ _ _ h => h) (Or.inl ⟨by kernel_rfl, ?_⟩) (by assumption) ?_
   rotate_left
   ·(intro w hSw; (try dsimp only at hSw); go_simp; try (with_reducible rfl))
   try simp only [List.getElem_toArray, List.getElem_cons_succ, List.getElem_cons_zero, Act.put, List.setIfInBounds_toArray, List.set_cons_zero, List.set_cons_succ]
   refine wpAnyH_ready (rs := [4]) (by kernel_rfl) (by simp) ?_
   refine (AllReadyH.cons (o := _) rfl (fun K hK => ?_) AllReadyH.nil)
   go_simp
   go_at_call 56; with_reducible refine (CT.out x1 x2 y1 y2 _ RAX1.out RBX1.out).mono ?_; rintro e X4 ⟨d2, p2, n2, c2, qz, rfl, WWX4⟩
   (try go_wp2_with fail)
   have BX4 := hid (btr BX1.out WWX4.out.be)
   have Z5X4 := hid (row_on Z5X1.out (WWX4.out.be))
   have Z6X4 := hid (row_on Z6X1.out (WWX4.out.be))
   have WHX4 := hid WWX4.out.rv
   have WN := hid WWX4.out.en
   refine hK.out _ _ ?_ (fun hHeld => ?_)
   ·(try dsimp only); exact ⟨HCA.out _ (BX4.out), HCB.out _ (BX4.out)⟩
   clear hK K
   try simp only [List.getElem_toArray, List.getElem_cons_succ, List.getElem_cons_zero, Act.put, List.setIfInBounds_toArray, List.set_cons_zero, List.set_cons_succ]
   refine' wpAnyH_take (i := 5) (oi := _) (v := _) rfl (by kernel_rfl) (by kernel_rfl) (by kernel_rfl) (fun _ _ _ h => h) (Or.inl ⟨by kernel_rfl, ?_⟩) (by assumption) ?_
   rotate_left
   ·(intro w hSw; (try dsimp only at hSw); go_simp; try (with_reducible rfl))
   try simp only [List.getElem_toArray, List.getElem_cons_succ, List.getElem_cons_zero, Act.put, List.setIfInBounds_toArray, List.set_cons_zero, List.set_cons_succ]
   refine' wpAnyH_take (i := 6) (oi := _) (v := _) rfl (by kernel_rfl) (by kernel_rfl) (by kernel_rfl) (fun _ _ _ h => h) (Or.inl ⟨by kernel_rfl, ?_⟩) (by assumption) ?_
   rotate_left
   ·(intro w hSw; (try dsimp only at hSw); go_simp; try (with_reducible rfl))
   try simp only [List.getElem_toArray, List.getElem_cons_succ, List.getElem_cons_zero, Act.put, List.setIfInBounds_toArray, List.set_cons_zero, List.set_cons_succ]
   refine' wpAnyH_take (i := 7) (oi := _) (v := _) rfl (by kernel_rfl) (by kernel_rfl) (by kernel_rfl) (fun _ _ _ h => h) (Or.inl ⟨by kernel_rfl, ?_⟩) (by assumption) ?_
   rotate_left
   ·(intro w hSw; (try dsimp only at hSw); go_simp; try (with_reducible rfl))
   try simp only [List.getElem_toArray, List.getElem_cons_succ, List.getElem_cons_zero, Act.put, List.setIfInBounds_toArray, List.set_cons_zero, List.set_cons_succ]
   have ZZ5 := Z5X4
   have ZZ6 := Z6X4
   have ZB := BX4
   have ZW := WHX4
   obtain ⟨WL, hWL⟩ : ∃ X, X4 = X := ⟨_, rfl⟩
   rw [hWL] at ZZ5 ZZ6 ZB ZW ⊢
   clear hWL hHeld
  rotate_left 1
 rotate_left 3
 all_goals
  have AIE1 := hid (show (Try.prog.info? 74).map (·.size) = some (#[.int .i64 d2.cap, .int .i64 d2.meet, .slice d2.p1 d2.o1.length d2.c1, .slice d2.p2 d2.o2.length d2.c2, .int .u64 d2.high, .int .u64 d2.seq, .slice p2 n2 c2] : Array Value).size from info74)
  have ASE1 := hid (show (#[.int .i64 0, .int .i64 0, .slice none 0 0, .slice none 0 0, .int .u64 0, .int .u64 0, .slice none 0 0] : Array Value).size = (#[.int .i64 d2.cap, .int .i64 d2.meet, .slice d2.p1 d2.o1.length d2.c1, .slice d2.p2 d2.o2.length d2.c2, .int .u64 d2.high, .int .u64 d2.seq, .slice p2 n2 c2] : Array Value).size from rfl)
  have AAE1 := hid (show (#[.int .i64 d2.cap, .int .i64 d2.meet, .slice d2.p1 d2.o1.length d2.c1, .slice d2.p2 d2.o2.length d2.c2, .int .u64 d2.high, .int .u64 d2.seq, .slice p2 n2 c2] : Array Value).all (·.oneCell') = true from by simp [Value.oneCell'])
  have AIE2 := hid (show (Try.prog.info? 78).map (·.size) = some (#[.int .u64 o.id, .int .u64 qz, .int .u64 o.pk, .int .u32 o.mb, .int .i64 s, .int .i64 o.ty, .int .i64 o.pr] : Array Value).size from info78)
  have ASE2 := hid (show (#[.int .u64 0, .int .u64 0, .int .u64 0, .int .u32 0, .int .i64 0, .int .i64 0, .int .i64 0] : Array Value).size = (#[.int .u64 o.id, .int .u64 qz, .int .u64 o.pk, .int .u32 o.mb, .int .i64 s, .int .i64 o.ty, .int .i64 o.pr] : Array Value).size from rfl)
  have AAE2 := hid (show (#[.int .u64 o.id, .int .u64 qz, .int .u64 o.pk, .int .u32 o.mb, .int .i64 s, .int .i64 o.ty, .int .i64 o.pr] : Array Value).all (·.oneCell') = true from by simp [Value.oneCell'])
  have HNE : g8 ≠ g9 := fun e => row_ne ZZ5.out ZZ6.out (by decide) e
  refine wpAnyH_ready (rs := [10]) (by kernel_rfl) (by simp) ?_
  refine AllReadyH.cons (o := _) rfl (fun K hK => ?_) AllReadyH.nil
  refine step_store_row (by rfl) 74 (.tmp 5) (.tmp 15) (by rfl) g8 #[.int .i64 d2.cap, .int .i64 d2.meet, .slice d2.p1 d2.o1.length d2.c1, .slice d2.p2 d2.o2.length d2.c2, .int .u64 d2.high, .int .u64 d2.seq, .slice p2 n2 c2] (by rfl) (by rfl) 74 _ ZZ5.out AIE1.out ASE1.out AAE1.out ?_
  have k1 := setRow_kp WL g8 #[.int .i64 d2.cap, .int .i64 d2.meet, .slice d2.p1 d2.o1.length d2.c1, .slice d2.p2 d2.o2.length d2.c2, .int .u64 d2.high, .int .u64 d2.seq, .slice p2 n2 c2]
  have HZ1 := hid (setRow_heap WL g8 _ #[.int .i64 d2.cap, .int .i64 d2.meet, .slice d2.p1 d2.o1.length d2.c1, .slice d2.p2 d2.o2.length d2.c2, .int .u64 d2.high, .int .u64 d2.seq, .slice p2 n2 c2] 74 (0, 0) ZZ5.out)
  have HZ2 := hid (k1.row ZZ6.out (Ne.symm HNE))
  have HZB := hid (ZB.out.trans (k1.below ZB.out.size (fun j hj e => by omega)))
  have HR1 := hid (own_setRow (cs' := #[.int .i64 d2.cap, .int .i64 d2.meet, .slice d2.p1 d2.o1.length d2.c1, .slice d2.p2 d2.o2.length d2.c2, .int .u64 d2.high, .int .u64 d2.seq, .slice p2 n2 c2]) (show WL.ownsRow 0 58 13 (.slice p2 n2 c2) _ _ from ZW.out) ZZ5.out (by decide))
  refine hK.out _ _ ?_ (fun hHeld => ?_)
  ·(try dsimp only); exact ⟨HCA.out _ HZB.out, HCB.out _ HZB.out⟩
  clear hK K k1
  try simp only [List.getElem_toArray, List.getElem_cons_succ, List.getElem_cons_zero, Act.put, List.setIfInBounds_toArray, List.set_cons_zero, List.set_cons_succ]
  obtain ⟨Y1, hY1⟩ : ∃ X, WL.setRow g8 #[.int .i64 d2.cap, .int .i64 d2.meet, .slice d2.p1 d2.o1.length d2.c1, .slice d2.p2 d2.o2.length d2.c2, .int .u64 d2.high, .int .u64 d2.seq, .slice p2 n2 c2] = X := ⟨_, rfl⟩
  rw [hY1] at HZ1 HZ2 HZB HR1 hHeld ⊢
  clear hY1
  refine wpAnyH_ready (rs := [11]) (by kernel_rfl) (by simp) ?_
  refine AllReadyH.cons (o := _) rfl (fun K hK => ?_) AllReadyH.nil
  refine step_store_row (by rfl) 78 (.tmp 6) (.tmp 16) (by rfl) g9 #[.int .u64 o.id, .int .u64 qz, .int .u64 o.pk, .int .u32 o.mb, .int .i64 s, .int .i64 o.ty, .int .i64 o.pr] (by rfl) (by rfl) 78 _ HZ2.out AIE2.out ASE2.out AAE2.out ?_
  have k2 := setRow_kp Y1 g9 #[.int .u64 o.id, .int .u64 qz, .int .u64 o.pk, .int .u32 o.mb, .int .i64 s, .int .i64 o.ty, .int .i64 o.pr]
  have HY1 := hid (k2.row HZ1.out HNE)
  have HYB := hid (HZB.out.trans (k2.below HZB.out.size (fun j hj e => by omega)))
  have HR2 := hid (own_setRow (cs' := #[.int .u64 o.id, .int .u64 qz, .int .u64 o.pk, .int .u32 o.mb, .int .i64 s, .int .i64 o.ty, .int .i64 o.pr]) HR1.out HZ2.out (by decide))
  refine hK.out _ _ ?_ (fun hHeld => ?_)
  ·(try dsimp only); exact ⟨HCA.out _ HYB.out, HCB.out _ HYB.out⟩
  clear hK K k2
  try simp only [List.getElem_toArray, List.getElem_cons_succ, List.getElem_cons_zero, Act.put, List.setIfInBounds_toArray, List.set_cons_zero, List.set_cons_succ]
  refine wpAnyH_done (by kernel_rfl) ?_ _
  obtain ⟨Y2, hY2⟩ : ∃ X, Y1.setRow g9 #[.int .u64 o.id, .int .u64 qz, .int .u64 o.pk, .int .u32 o.mb, .int .i64 s, .int .i64 o.ty, .int .i64 o.pr] = X := ⟨_, rfl⟩
  rw [hY2] at HY1 HYB HR2 ⊢
  clear hY2 hHeld
  have HEV := hid (show Rv Y2 (.slice p2 n2 c2) es from by rw [← HES.out]; exact HR2.out)
  have HEN := hid (show es.length = n2 from by rw [← HES.out]; exact WN.out)
  obtain ⟨s0, s1, s2, s3, s4, s5, s6⟩ := row7 HY1.out
  obtain ⟨t0, t1, t2, t3, t4, t5, t6⟩ := HCB.out _ HYB.out
  go_wp2_with fail
  go_loopw [7, 8] (fun dv jv wr' => ∃ (j : Nat) (dd : Int), j ≤ n2 ∧ jv = .int .i64 j ∧ dv = .int .u64 dd ∧ wr' = Y2 ∧ Hid (trd (es.take j) = dd)) (fun _ jv _ => n2 - (intOf jv).toNat)
  case atStart => exact ⟨0, 0, Nat.zero_le _, rfl, rfl, rfl, hid rfl⟩
  case round =>
   obtain ⟨j, dd, hjm, rfl, rfl, rfl, HD⟩ := hrel
   have HBB := hid (btr HBW.out HYB.out)
   by_cases hjl : j < n2
   ·have hje : j < es.length := by rw [HEN.out]; exact hjl
    obtain ⟨g', cc', hp, hmx, _, hcc⟩ := ev_cells HEV.out hje
    have hp' := (Value.slice.inj hp).1
    subst hp'
    rw [HEN.out] at hmx
    have hmx' : n2 < 9223372036854775808 := by unfold maxLen at hmx; omega
    obtain ⟨e', he'⟩ : ∃ e, es[j] = e := ⟨_, rfl⟩
    rw [he'] at hcc
    have r1 := hcc 1 (by omega)
    have r9 := hcc 9 (by omega)
    simp only [ecs, List.getElem?_cons_succ, List.getElem?_cons_zero] at r1 r9
    have ht := trd_take hje
    rw [he', HD.out] at ht
    have hb1 := trd_take_le HPOS.out j
    have hb2 := trd_take_le HPOS.out (j + 1)
    rw [HD.out] at hb1
    have htr := HQT.out
    have hqq := HQ1.out
    have j0' : (0 : Int) ≤ (j : Int) := by omega
    have j1 : (j : Int) < (n2 : Int) := by omega
    have HT := hid ht
    clear hcc hp he' cc' hmx
    by_cases k3 : e'.kd = 3
    ·rw [k3] at r1
     have hw : IntKind.u64.wrap (dd + e'.qt) = dd + e'.qt := by
      rw [if_pos k3] at ht
      rw [IntKind.wrap_u64]
      omega
     have HWR := hid hw
     clear ht hb1 hb2 htr hw hqq
     go_wp2
     go_roundw
     case rel =>
      refine ⟨j + 1, _, by omega, by go_num, rfl, trivial, hid ?_⟩
      rw [HT.out, if_pos k3, HWR.out]
     case measure => simp [intOf]; omega
    ·have k3' : (e'.kd == 3) = false := by simpa using k3
     clear ht hb1 hb2 htr hqq
     go_wp2
     go_roundw
     case rel =>
      refine ⟨j + 1, _, by omega, by go_num, rfl, trivial, hid ?_⟩
      rw [HT.out, if_neg k3]
      omega
     case measure => simp [intOf]; omega
   ·obtain rfl : j = n2 := by omega
    have hd := HD.out
    rw [List.take_of_length_le (by rw [HEN.out]; exact Nat.le_refl _)] at hd
    have HDD := hid hd
    clear hd
    go_wp2
    go_ret
    exact ⟨by rw [HDD.out]; rfl, HBB.out⟩
end Go.Proofs.Ytalgndgoedlpoaa
