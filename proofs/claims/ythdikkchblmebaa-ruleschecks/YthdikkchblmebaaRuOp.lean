/-
  A book opened with what it is given. Written by mkzo.py.
-/
import Derived.Test.YthdikkchblmebaaRuZ
import Derived.Deep.DrawnRows
namespace Go.Proofs.Ythdikkchblmebaa
open Go.RowKit Go.Deep Go.Shelf
set_option linter.unusedVariables false
set_option linter.unusedSimpArgs false
set_option maxHeartbeats 4000000
set_option maxRecDepth 100000
attribute [local go_sem ↓] Go.wp_at_zero Go.wp_at_succ
theorem Nw.on {w0 w w' : World} {v : Value} {l : LO} {os : List Or} (h : Nw w0 w v l os) (hb : Below w.heap.size w w') : Nw w0 w' v l os :=
  ⟨own_on h.own hb, fun x hx => ⟨(h.at' x hx).1, row_on (h.at' x hx).2 hb⟩, h.nd, h.os, btr h.be hb⟩
theorem Nw.up {W w0 w : World} {v : Value} {l : LO} {os : List Or} (h : Nw w0 w v l os) (hb : Below W.heap.size W w0) : Nw W w v l os :=
  ⟨own_base h.own hb.size, fun x hx => ⟨Nat.le_trans hb.size (h.at' x hx).1, (h.at' x hx).2⟩, h.nd, h.os, btr hb h.be⟩
theorem Nw.len {w0 w : World} {v : Value} {l : LO} {os : List Or} (h : Nw w0 w v l os) : l.length = os.length := by rw [← h.os]; simp
theorem Nw.kept {w0 w w' : World} {v : Value} {l : LO} {os : List Or} {A : Nat} {c : Array Value} (h : Nw w0 w v l os) (hA : w.heap[A]? = some (.cells c 58 (0, 0))) (h0 : w0.heap.size ≤ A) (hk : Kp (fun j => j = A) w w') : Nw w0 w' v l os := by
  refine ⟨own_same h.own (fun g hg => ?_), fun x hx => ⟨(h.at' x hx).1, hk.row (h.at' x hx).2 (row_ne (h.at' x hx).2 hA (by decide))⟩, h.nd, h.os, h.be.trans (hk.below h.be.size (fun g hg e => by omega))⟩
  obtain ⟨c', e⟩ := own_ty h.own hg
  exact hk.obj g (row_lt e) (row_ne e hA (by decide))
/-- two lists, all new, apart. -/
structure Ope (W w : World) (v1 v2 : Value) (l1 l2 : LO) (os1 os2 : List Or) : Prop where
  n1 : Nw W w v1 l1 os1
  n2 : Nw W w v2 l2 os2
  nd : ((l1 ++ l2).map (·.1)).Nodup
  ap : ∀ g, v1.ownBlock = some g → v2.ownBlock ≠ some g
theorem Ope.mk' {W U1 w1 U2 w2 w3 : World} {v1 v2 : Value} {l1 l2 : LO} {os1 os2 : List Or} (hU1 : Below W.heap.size W U1) (N1 : Nw U1 w1 v1 l1 os1) (h12 : Below w1.heap.size w1 U2) (N2 : Nw U2 w2 v2 l2 os2) (h23 : Below w2.heap.size w2 w3) : Ope W w3 v1 v2 l1 l2 os1 os2 := by
  refine ⟨(N1.up hU1).on (btr (btr h12 N2.be) h23), (N2.up (btr (btr hU1 N1.be) h12)).on h23, ?_, fun g hg e => ?_⟩
  · rw [List.map_append, List.nodup_append]
    refine ⟨N1.nd, N2.nd, ?_⟩
    intro a ha b hb e
    obtain ⟨x, hx, rfl⟩ := List.mem_map.1 ha
    obtain ⟨y, hy, rfl⟩ := List.mem_map.1 hb
    have a1 := row_lt (N1.at' x hx).2
    have a2 := (N2.at' y hy).1
    have := h12.size
    omega
  · obtain ⟨c, e1⟩ := own_ty N1.own hg
    have a1 := row_lt e1
    have a2 := (N2.own.lt g e).1
    have := h12.size
    omega
theorem Ope.kept {W w w' : World} {v1 v2 : Value} {l1 l2 : LO} {os1 os2 : List Or} {A : Nat} {c : Array Value} (h : Ope W w v1 v2 l1 l2 os1 os2) (hA : w.heap[A]? = some (.cells c 58 (0, 0))) (h0 : W.heap.size ≤ A) (hk : Kp (fun j => j = A) w w') : Ope W w' v1 v2 l1 l2 os1 os2 :=
  ⟨h.n1.kept hA h0 hk, h.n2.kept hA h0 hk, h.nd, h.ap⟩
/-- a book stands, all new, of these orders. -/
structure Opd (w w' : World) (B : Nat) (b : Bs) (cap meet : Int) (os1 os2 : List Or) (high seq : Int) : Prop where
  bm : Bm w' B b
  num : b.cap = cap ∧ b.meet = meet ∧ b.high = high ∧ b.seq = seq
  o1 : b.l1.map (·.2) = os1
  o2 : b.l2.map (·.2) = os2
  nw : ∀ j, b.fp B j → w.heap.size ≤ j
  be : Below w.heap.size w w'
theorem Ope.opd {w W U : World} {x1 x2 : Option Addr} {y1 y2 : Nat} {l1 l2 : LO} {os1 os2 : List Or} {cap meet high seq : Int} (hb : Below w.heap.size w W) (h : Ope W U (.slice x1 l1.length y1) (.slice x2 l2.length y2) l1 l2 os1 os2) {cs : Array Value} (hcs : cs = (Bs.mk cap meet x1 y1 x2 y2 l1 l2 high seq).row) : Opd w (U.alloc (.cells cs 60)) U.heap.size ⟨cap, meet, x1, y1, x2, y2, l1, l2, high, seq⟩ cap meet os1 os2 high seq := by
  have hU := btr hb h.n1.be
  have hn1 : ∀ g, OfP x1 g → (Value.slice x1 l1.length y1).ownBlock = some g := by rintro g rfl; rfl
  have hn2 : ∀ g, OfP x2 g → (Value.slice x2 l2.length y2).ownBlock = some g := by rintro g rfl; rfl
  refine ⟨⟨by subst hcs; exact World.alloc_heap_new _ _, Li.on ⟨own_base h.n1.own (Nat.zero_le _), fun x hx => (h.n1.at' x hx).2⟩ (ball _ _), Li.on ⟨own_base h.n2.own (Nat.zero_le _), fun x hx => (h.n2.at' x hx).2⟩ (ball _ _), h.nd, fun g h1 h2 => h.ap g (hn1 g h1) (hn2 g h2)⟩, ⟨rfl, rfl, rfl, rfl⟩, h.n1.os, h.n2.os, ?_, btr hU (ball _ _)⟩
  rintro j (e | e | e | e | e)
  · have := hU.size; omega
  · exact Nat.le_trans hb.size (h.n1.own.lt j (hn1 j e)).1
  · exact Nat.le_trans hb.size (h.n2.own.lt j (hn2 j e)).1
  · obtain ⟨x, hx, rfl⟩ := List.mem_map.1 e; exact Nat.le_trans hb.size (h.n1.at' x hx).1
  · obtain ⟨x, hx, rfl⟩ := List.mem_map.1 e; exact Nat.le_trans hb.size (h.n2.at' x hx).1
theorem opened_any (cap meet : Int) (p1 : Option Addr) (c1 : Nat) (os1 : List Or) (p2 : Option Addr) (c2 : Nat) (os2 : List Or) (high seq : Int) (w : World) (h1 : w.ownsRow 0 53 7 (.slice p1 os1.length c1) os1.length (ors os1)) (h2 : w.ownsRow 0 53 7 (.slice p2 os2.length c2) os2.length (ors os2)) (hn : os1.length + os2.length ≤ 1048576) :
    Calls Try.prog 15 #[.agg #[.int .i64 cap, .int .i64 meet, .slice p1 os1.length c1, .slice p2 os2.length c2, .int .u64 high, .int .u64 seq]] w fun e w' => ∃ B b, e = .returned (.pointer (some ⟨B, 0, none⟩)) ∧ Opd w w' B b cap meet os1 os2 high seq := by
  obtain ⟨R, hR⟩ : ∃ R, w.heap.size = R := ⟨_, rfl⟩
  obtain ⟨W, hW⟩ : ∃ W, w.alloc (.cells #[.int .i64 cap, .int .i64 meet, .slice p1 os1.length c1, .slice p2 os2.length c2, .int .u64 high, .int .u64 seq] 30) = W := ⟨_, rfl⟩
  have hb : Below w.heap.size w W := by rw [← hW]; exact ball _ _
  have hx : W.heap[R]? = some (.cells #[.int .i64 cap, .int .i64 meet, .slice p1 os1.length c1, .slice p2 os2.length c2, .int .u64 high, .int .u64 seq] 30 (0, 0)) := by rw [← hW, ← hR]; exact World.alloc_heap_new _ _
  have HW := hid hW
  have HBW := hid hb
  have CL1 := hid (fun (U : World) (hU : Below W.heap.size W U) => listOf_any p1 c1 os1 U (own_on (own_on h1 hb) hU) (by omega))
  have CL2 := hid (fun (U : World) (hU : Below W.heap.size W U) => listOf_any p2 c2 os2 U (own_on (own_on h2 hb) hU) (by omega))
  have HSS := hid (fun (U : World) (hU : Below W.heap.size W U) => (show ((fun U => U.cell? ⟨R, 0, none⟩ = some (.int .i64 cap) ∧ U.cell? ⟨R, 1, none⟩ = some (.int .i64 meet) ∧ U.cell? ⟨R, 2, none⟩ = some (.slice p1 os1.length c1) ∧ U.cell? ⟨R, 3, none⟩ = some (.slice p2 os2.length c2) ∧ U.cell? ⟨R, 4, none⟩ = some (.int .u64 high) ∧ U.cell? ⟨R, 5, none⟩ = some (.int .u64 seq))) U from by
    have hr := row_on hx hU
    have a0 := row_cell hr 0
    have a1 := row_cell hr 1
    have a2 := row_cell hr 2
    have a3 := row_cell hr 3
    have a4 := row_cell hr 4
    have a5 := row_cell hr 5
    simp only [List.getElem?_toArray, List.getElem?_cons_succ, List.getElem?_cons_zero] at a0 a1 a2 a3 a4 a5
    exact ⟨a0, a1, a2, a3, a4, a5⟩))
  have HRR := hid hR
  have SR := row_lt hx
  clear hW hb hx h1 h2 hR
  go_enter Try.func15, Try.ntmps15
  go_upto_region 1 with fail
  have e1 := HRR.out
  rw [e1]
  clear e1
  have e0 := HW.out
  rw [e0]
  clear e0
  refine wp_region_held_drew (S := (fun U => U.cell? ⟨R, 0, none⟩ = some (.int .i64 cap) ∧ U.cell? ⟨R, 1, none⟩ = some (.int .i64 meet) ∧ U.cell? ⟨R, 2, none⟩ = some (.slice p1 os1.length c1) ∧ U.cell? ⟨R, 3, none⟩ = some (.slice p2 os2.length c2) ∧ U.cell? ⟨R, 4, none⟩ = some (.int .u64 high) ∧ U.cell? ⟨R, 5, none⟩ = some (.int .u64 seq))) (by kernel_rfl) ?_ (fun hHeld => ?_)
  · (try dsimp only); (exact HSS.out _ (bdrew1 _))
  refine' wpAnyH_take (i := 0) (oi := _) (v := _) rfl (by kernel_rfl) (by kernel_rfl) (by kernel_rfl) (fun _ _ _ h => h) (Or.inl ⟨by kernel_rfl, ?hyq1⟩) (by assumption) ?restq1
  case hyq1 => (intro w hSw; (try dsimp only at hSw); go_simp; try (with_reducible rfl))
  try simp only [List.getElem_toArray, List.getElem_cons_succ, List.getElem_cons_zero, Act.put, List.setIfInBounds_toArray, List.set_cons_zero, List.set_cons_succ]
  refine' wpAnyH_take (i := 1) (oi := _) (v := _) rfl (by kernel_rfl) (by kernel_rfl) (by kernel_rfl) (fun _ _ _ h => h) (Or.inl ⟨by kernel_rfl, ?hyq2⟩) (by assumption) ?restq2
  case hyq2 => (intro w hSw; (try dsimp only at hSw); go_simp; try (with_reducible rfl))
  try simp only [List.getElem_toArray, List.getElem_cons_succ, List.getElem_cons_zero, Act.put, List.setIfInBounds_toArray, List.set_cons_zero, List.set_cons_succ]
  refine' wpAnyH_take (i := 3) (oi := _) (v := _) rfl (by kernel_rfl) (by kernel_rfl) (by kernel_rfl) (fun _ _ _ h => h) (Or.inl ⟨by kernel_rfl, ?hyq3⟩) (by assumption) ?restq3
  case hyq3 => (intro w hSw; (try dsimp only at hSw); go_simp; try (with_reducible rfl))
  try simp only [List.getElem_toArray, List.getElem_cons_succ, List.getElem_cons_zero, Act.put, List.setIfInBounds_toArray, List.set_cons_zero, List.set_cons_succ]
  refine' wpAnyH_take (i := 4) (oi := _) (v := _) rfl (by kernel_rfl) (by kernel_rfl) (by kernel_rfl) (fun _ _ _ h => h) (Or.inl ⟨by kernel_rfl, ?hyq4⟩) (by assumption) ?restq4
  case hyq4 => (intro w hSw; (try dsimp only at hSw); go_simp; try (with_reducible rfl))
  try simp only [List.getElem_toArray, List.getElem_cons_succ, List.getElem_cons_zero, Act.put, List.setIfInBounds_toArray, List.set_cons_zero, List.set_cons_succ]
  refine wpAnyH_ready (rs := [2, 7]) (by kernel_rfl) (by simp) ?_
  refine AllReadyH.cons (o := _) rfl (fun K hK => ?_) (AllReadyH.cons (o := _) rfl (fun K hK => ?_) AllReadyH.nil)
  · go_simp
    go_at_call 28; with_reducible refine (CL1.out _ (bdrew1 _)).mono ?_; rintro e w1 ⟨v1, l1, rfl, hn1⟩; obtain ⟨x1, y1, rfl⟩ := own_form hn1.own; have N1 := hid hn1; have HB1 := hid (show Below W.heap.size W w1 from btr (bdrew1 _) hn1.be); clear hn1
    (try go_wp2_with fail)
    refine hK.out _ _ ?_ (fun hHeld => ?_)
    · (try dsimp only); (exact HSS.out _ HB1.out)
    clear hK K
    try simp only [List.getElem_toArray, List.getElem_cons_succ, List.getElem_cons_zero, Act.put, List.setIfInBounds_toArray, List.set_cons_zero, List.set_cons_succ]
    refine wpAnyH_ready (rs := [5, 7]) (by kernel_rfl) (by simp) ?_
    refine AllReadyH.cons (o := _) rfl (fun K hK => ?_) (AllReadyH.cons (o := _) rfl (fun K hK => ?_) AllReadyH.nil)
    · go_simp
      go_at_call 28; with_reducible refine (CL2.out _ (HB1.out)).mono ?_; rintro e w2 ⟨v2, l2, rfl, hn2⟩; obtain ⟨x2, y2, rfl⟩ := own_form hn2.own; have N2 := hid hn2; have HB2 := hid (show Below W.heap.size W w2 from btr (HB1.out) hn2.be); clear hn2
      (try go_wp2_with fail)
      refine hK.out _ _ ?_ (fun hHeld => ?_)
      · (try dsimp only); (exact HSS.out _ HB2.out)
      clear hK K
      try simp only [List.getElem_toArray, List.getElem_cons_succ, List.getElem_cons_zero, Act.put, List.setIfInBounds_toArray, List.set_cons_zero, List.set_cons_succ]
      refine' wpAnyH_take (i := 6) (oi := _) (v := _) rfl (by kernel_rfl) (by kernel_rfl) (by kernel_rfl) (fun _ _ _ h => h) (Or.inl ⟨by kernel_rfl, ?hyq5⟩) (by assumption) ?restq5
      case hyq5 => (intro w hSw; (try dsimp only at hSw); go_simp; try (with_reducible rfl))
      try simp only [List.getElem_toArray, List.getElem_cons_succ, List.getElem_cons_zero, Act.put, List.setIfInBounds_toArray, List.set_cons_zero, List.set_cons_succ]
      refine wpAnyH_ready (rs := [7]) (by kernel_rfl) (by simp) ?_
      refine AllReadyH.cons (o := _) rfl (fun K hK => ?_) AllReadyH.nil
      go_simp
      have HBA := hid (show Below W.heap.size W (w2.alloc (.cells #[.slice none 0 0, .slice none 0 0] 58)) from btr (HB2.out) (ball _ _))
      refine hK.out _ _ ?_ (fun hHeld => ?_)
      · (try dsimp only); (exact HSS.out _ HBA.out)
      clear hK K
      try simp only [List.getElem_toArray, List.getElem_cons_succ, List.getElem_cons_zero, Act.put, List.setIfInBounds_toArray, List.set_cons_zero, List.set_cons_succ]
      obtain ⟨U3, hU3⟩ : ∃ U3, w2.alloc (.cells #[.slice none 0 0, .slice none 0 0] 58) = U3 := ⟨_, rfl⟩
      obtain ⟨A, hAe⟩ : ∃ A, w2.heap.size = A := ⟨_, rfl⟩
      have HOP := hid (show Ope W U3 _ _ l1 l2 os1 os2 from by rw [← hU3]; exact Ope.mk' (bdrew1 W) N1.out (Below.refl _ _) N2.out (ball _ _))
      have HAA := hid (show U3.heap[A]? = some (.cells #[.slice none 0 0, .slice none 0 0] 58 (0, 0)) from by rw [← hU3, ← hAe]; exact World.alloc_heap_new _ _)
      have HAL := hid (show W.heap.size ≤ A from by rw [← hAe]; exact HB2.out.size)
      rw [hAe]
      rw [hU3]
      clear hU3 hAe
      have f0 := row_frz HAA.out 0
      have f1 := row_frz HAA.out 1
      have c0 := row_cell HAA.out 0
      have c1' := row_cell HAA.out 1
      simp only [List.getElem?_toArray, List.getElem?_cons_succ, List.getElem?_cons_zero] at c0 c1'
      refine wpAnyH_ready (rs := [8]) (by kernel_rfl) (by simp) ?_
      refine AllReadyH.cons (o := _) rfl (fun K hK => ?_) AllReadyH.nil
      go_simp
      obtain ⟨W3, hW3⟩ : ∃ W3, (U3.setCell ⟨A, 0, none⟩ (.slice x1 l1.length y1)).setCell ⟨A, 1, none⟩ (.slice x2 l2.length y2) = W3 := ⟨_, rfl⟩
      rw [hW3]
      have hk3 : Kp (fun j => j = A) U3 W3 := by rw [← hW3]; exact (Kp.set U3 A 0 _).trans (Kp.set _ A 1 _) (fun _ _ h => h)
      have hA3 : W3.heap[A]? = some (.cells #[.slice x1 l1.length y1, .slice x2 l2.length y2] 58 (0, 0)) := by rw [← hW3, set_row _ (set_row _ HAA.out)]; rfl
      have hO3 := HOP.out.kept HAA.out HAL.out hk3
      have HO3 := hid hO3
      have b0 := row_cell hA3 0
      have b1 := row_cell hA3 1
      simp only [List.getElem?_toArray, List.getElem?_cons_succ, List.getElem?_cons_zero] at b0 b1
      have HS3 := hid (HSS.out W3 hO3.n1.be)
      clear hW3 hk3 hA3 hO3 f0 f1 c0 c1'
      refine hK.out _ _ ?_ (fun hHeld => ?_)
      · exact HS3.out
      clear hK K hHeld
      refine wpAnyH_done (by kernel_rfl) ?_ _
      obtain ⟨a0, a1, a2, a3, a4, a5⟩ := HS3.out
      go_wp2
      go_ret
      exact ⟨_, _, rfl, HO3.out.opd HBW.out rfl⟩
    · go_simp
      have HBA := hid (show Below W.heap.size W (w1.alloc (.cells #[.slice none 0 0, .slice none 0 0] 58)) from btr (HB1.out) (ball _ _))
      refine hK.out _ _ ?_ (fun hHeld => ?_)
      · (try dsimp only); (exact HSS.out _ HBA.out)
      clear hK K
      try simp only [List.getElem_toArray, List.getElem_cons_succ, List.getElem_cons_zero, Act.put, List.setIfInBounds_toArray, List.set_cons_zero, List.set_cons_succ]
      refine wpAnyH_ready (rs := [5]) (by kernel_rfl) (by simp) ?_
      refine AllReadyH.cons (o := _) rfl (fun K hK => ?_) AllReadyH.nil
      go_simp
      go_at_call 28; with_reducible refine (CL2.out _ (HBA.out)).mono ?_; rintro e w2 ⟨v2, l2, rfl, hn2⟩; obtain ⟨x2, y2, rfl⟩ := own_form hn2.own; have N2 := hid hn2; have HB2 := hid (show Below W.heap.size W w2 from btr (HBA.out) hn2.be); clear hn2
      (try go_wp2_with fail)
      refine hK.out _ _ ?_ (fun hHeld => ?_)
      · (try dsimp only); (exact HSS.out _ HB2.out)
      clear hK K
      try simp only [List.getElem_toArray, List.getElem_cons_succ, List.getElem_cons_zero, Act.put, List.setIfInBounds_toArray, List.set_cons_zero, List.set_cons_succ]
      refine' wpAnyH_take (i := 6) (oi := _) (v := _) rfl (by kernel_rfl) (by kernel_rfl) (by kernel_rfl) (fun _ _ _ h => h) (Or.inl ⟨by kernel_rfl, ?hyq6⟩) (by assumption) ?restq6
      case hyq6 => (intro w hSw; (try dsimp only at hSw); go_simp; try (with_reducible rfl))
      try simp only [List.getElem_toArray, List.getElem_cons_succ, List.getElem_cons_zero, Act.put, List.setIfInBounds_toArray, List.set_cons_zero, List.set_cons_succ]
      obtain ⟨U3, hU3⟩ : ∃ U3, w2 = U3 := ⟨_, rfl⟩
      obtain ⟨A, hAe⟩ : ∃ A, w1.heap.size = A := ⟨_, rfl⟩
      have HOP := hid (show Ope W U3 _ _ l1 l2 os1 os2 from by rw [← hU3]; exact Ope.mk' (bdrew1 W) N1.out (ball _ _) N2.out (Below.refl _ _))
      have HAA := hid (show U3.heap[A]? = some (.cells #[.slice none 0 0, .slice none 0 0] 58 (0, 0)) from by rw [← hU3, ← hAe]; exact row_on (World.alloc_heap_new _ _) N2.out.be)
      have HAL := hid (show W.heap.size ≤ A from by rw [← hAe]; exact HB1.out.size)
      rw [hAe]
      rw [hU3]
      clear hU3 hAe
      have f0 := row_frz HAA.out 0
      have f1 := row_frz HAA.out 1
      have c0 := row_cell HAA.out 0
      have c1' := row_cell HAA.out 1
      simp only [List.getElem?_toArray, List.getElem?_cons_succ, List.getElem?_cons_zero] at c0 c1'
      refine wpAnyH_ready (rs := [8]) (by kernel_rfl) (by simp) ?_
      refine AllReadyH.cons (o := _) rfl (fun K hK => ?_) AllReadyH.nil
      go_simp
      obtain ⟨W3, hW3⟩ : ∃ W3, (U3.setCell ⟨A, 0, none⟩ (.slice x1 l1.length y1)).setCell ⟨A, 1, none⟩ (.slice x2 l2.length y2) = W3 := ⟨_, rfl⟩
      rw [hW3]
      have hk3 : Kp (fun j => j = A) U3 W3 := by rw [← hW3]; exact (Kp.set U3 A 0 _).trans (Kp.set _ A 1 _) (fun _ _ h => h)
      have hA3 : W3.heap[A]? = some (.cells #[.slice x1 l1.length y1, .slice x2 l2.length y2] 58 (0, 0)) := by rw [← hW3, set_row _ (set_row _ HAA.out)]; rfl
      have hO3 := HOP.out.kept HAA.out HAL.out hk3
      have HO3 := hid hO3
      have b0 := row_cell hA3 0
      have b1 := row_cell hA3 1
      simp only [List.getElem?_toArray, List.getElem?_cons_succ, List.getElem?_cons_zero] at b0 b1
      have HS3 := hid (HSS.out W3 hO3.n1.be)
      clear hW3 hk3 hA3 hO3 f0 f1 c0 c1'
      refine hK.out _ _ ?_ (fun hHeld => ?_)
      · exact HS3.out
      clear hK K hHeld
      refine wpAnyH_done (by kernel_rfl) ?_ _
      obtain ⟨a0, a1, a2, a3, a4, a5⟩ := HS3.out
      go_wp2
      go_ret
      exact ⟨_, _, rfl, HO3.out.opd HBW.out rfl⟩
  · go_simp
    have HBA := hid (show Below W.heap.size W (W.alloc (.cells #[.slice none 0 0, .slice none 0 0] 58)).drew from btr (ball _ _) (bdrew1 _))
    refine hK.out _ _ ?_ (fun hHeld => ?_)
    · (try dsimp only); (exact HSS.out _ HBA.out)
    clear hK K
    try simp only [List.getElem_toArray, List.getElem_cons_succ, List.getElem_cons_zero, Act.put, List.setIfInBounds_toArray, List.set_cons_zero, List.set_cons_succ]
    refine wpAnyH_ready (rs := [2]) (by kernel_rfl) (by simp) ?_
    refine AllReadyH.cons (o := _) rfl (fun K hK => ?_) AllReadyH.nil
    go_simp
    go_at_call 28; with_reducible refine (CL1.out _ (HBA.out)).mono ?_; rintro e w1 ⟨v1, l1, rfl, hn1⟩; obtain ⟨x1, y1, rfl⟩ := own_form hn1.own; have N1 := hid hn1; have HB1 := hid (show Below W.heap.size W w1 from btr (HBA.out) hn1.be); clear hn1
    (try go_wp2_with fail)
    refine hK.out _ _ ?_ (fun hHeld => ?_)
    · (try dsimp only); (exact HSS.out _ HB1.out)
    clear hK K
    try simp only [List.getElem_toArray, List.getElem_cons_succ, List.getElem_cons_zero, Act.put, List.setIfInBounds_toArray, List.set_cons_zero, List.set_cons_succ]
    refine wpAnyH_ready (rs := [5]) (by kernel_rfl) (by simp) ?_
    refine AllReadyH.cons (o := _) rfl (fun K hK => ?_) AllReadyH.nil
    go_simp
    go_at_call 28; with_reducible refine (CL2.out _ (HB1.out)).mono ?_; rintro e w2 ⟨v2, l2, rfl, hn2⟩; obtain ⟨x2, y2, rfl⟩ := own_form hn2.own; have N2 := hid hn2; have HB2 := hid (show Below W.heap.size W w2 from btr (HB1.out) hn2.be); clear hn2
    (try go_wp2_with fail)
    refine hK.out _ _ ?_ (fun hHeld => ?_)
    · (try dsimp only); (exact HSS.out _ HB2.out)
    clear hK K
    try simp only [List.getElem_toArray, List.getElem_cons_succ, List.getElem_cons_zero, Act.put, List.setIfInBounds_toArray, List.set_cons_zero, List.set_cons_succ]
    refine' wpAnyH_take (i := 6) (oi := _) (v := _) rfl (by kernel_rfl) (by kernel_rfl) (by kernel_rfl) (fun _ _ _ h => h) (Or.inl ⟨by kernel_rfl, ?hyq7⟩) (by assumption) ?restq7
    case hyq7 => (intro w hSw; (try dsimp only at hSw); go_simp; try (with_reducible rfl))
    try simp only [List.getElem_toArray, List.getElem_cons_succ, List.getElem_cons_zero, Act.put, List.setIfInBounds_toArray, List.set_cons_zero, List.set_cons_succ]
    obtain ⟨U3, hU3⟩ : ∃ U3, w2 = U3 := ⟨_, rfl⟩
    obtain ⟨A, hAe⟩ : ∃ A, W.heap.size = A := ⟨_, rfl⟩
    have HOP := hid (show Ope W U3 _ _ l1 l2 os1 os2 from by rw [← hU3]; exact Ope.mk' (btr (ball _ _) (bdrew1 _)) N1.out (Below.refl _ _) N2.out (Below.refl _ _))
    have HAA := hid (show U3.heap[A]? = some (.cells #[.slice none 0 0, .slice none 0 0] 58 (0, 0)) from by rw [← hU3, ← hAe]; exact row_on (row_on (w := (W.alloc (.cells #[.slice none 0 0, .slice none 0 0] 58)).drew) (World.alloc_heap_new W _) N1.out.be) N2.out.be)
    have HAL := hid (show W.heap.size ≤ A from by rw [← hAe]; exact Nat.le_refl _)
    rw [hAe]
    rw [hU3]
    clear hU3 hAe
    have f0 := row_frz HAA.out 0
    have f1 := row_frz HAA.out 1
    have c0 := row_cell HAA.out 0
    have c1' := row_cell HAA.out 1
    simp only [List.getElem?_toArray, List.getElem?_cons_succ, List.getElem?_cons_zero] at c0 c1'
    refine wpAnyH_ready (rs := [8]) (by kernel_rfl) (by simp) ?_
    refine AllReadyH.cons (o := _) rfl (fun K hK => ?_) AllReadyH.nil
    go_simp
    obtain ⟨W3, hW3⟩ : ∃ W3, (U3.setCell ⟨A, 0, none⟩ (.slice x1 l1.length y1)).setCell ⟨A, 1, none⟩ (.slice x2 l2.length y2) = W3 := ⟨_, rfl⟩
    rw [hW3]
    have hk3 : Kp (fun j => j = A) U3 W3 := by rw [← hW3]; exact (Kp.set U3 A 0 _).trans (Kp.set _ A 1 _) (fun _ _ h => h)
    have hA3 : W3.heap[A]? = some (.cells #[.slice x1 l1.length y1, .slice x2 l2.length y2] 58 (0, 0)) := by rw [← hW3, set_row _ (set_row _ HAA.out)]; rfl
    have hO3 := HOP.out.kept HAA.out HAL.out hk3
    have HO3 := hid hO3
    have b0 := row_cell hA3 0
    have b1 := row_cell hA3 1
    simp only [List.getElem?_toArray, List.getElem?_cons_succ, List.getElem?_cons_zero] at b0 b1
    have HS3 := hid (HSS.out W3 hO3.n1.be)
    clear hW3 hk3 hA3 hO3 f0 f1 c0 c1'
    refine hK.out _ _ ?_ (fun hHeld => ?_)
    · exact HS3.out
    clear hK K hHeld
    refine wpAnyH_done (by kernel_rfl) ?_ _
    obtain ⟨a0, a1, a2, a3, a4, a5⟩ := HS3.out
    go_wp2
    go_ret
    exact ⟨_, _, rfl, HO3.out.opd HBW.out rfl⟩
end Go.Proofs.Ythdikkchblmebaa
