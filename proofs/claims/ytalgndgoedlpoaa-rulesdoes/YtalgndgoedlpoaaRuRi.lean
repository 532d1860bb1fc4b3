/-
  RuRi
-/
import Derived.Test.YtalgndgoedlpoaaRuRh
import Derived.Deep.DrawnRows
import Derived.Deep.RegionLaw
import Derived.Deep.Cut
namespace Go.Proofs.Ytalgndgoedlpoaa
open Go.RowKit Go.Deep Go.Shelf
set_option linter.unusedVariables false
set_option linter.unusedSimpArgs false
set_option maxHeartbeats 4000000
set_option maxRecDepth 100000
attribute [local go_sem ↓] Go.wp_at_zero Go.wp_at_succ
theorem ecs_at {w : World} {g : Nat} {e : Ev} (h : w.heap[g]? = some (.cells (ecs e).toArray 58 (0, 0))) : w.cell? ⟨g, 0, none⟩ = some (.int .u64 e.sq) ∧ w.cell? ⟨g, 1, none⟩ = some (.int .i64 e.kd) ∧ w.cell? ⟨g, 2, none⟩ = some (.int .u64 e.id) ∧ w.cell? ⟨g, 3, none⟩ = some (.int .u64 e.ot) ∧ w.cell? ⟨g, 4, none⟩ = some (.int .u64 e.tg) ∧ w.cell? ⟨g, 5, none⟩ = some (.int .u32 e.mb) ∧ w.cell? ⟨g, 6, none⟩ = some (.int .i64 e.sd) ∧ w.cell? ⟨g, 7, none⟩ = some (.int .i64 e.ty) ∧ w.cell? ⟨g, 8, none⟩ = some (.int .i64 e.pr) ∧ w.cell? ⟨g, 9, none⟩ = some (.int .u64 e.qt) ∧ w.cell? ⟨g, 10, none⟩ = some (.int .u64 e.pk) ∧ w.cell? ⟨g, 11, none⟩ = some (.int .i64 e.rs) ∧ w.cell? ⟨g, 12, none⟩ = some (.int .i64 e.cd) := ⟨row_cell h 0, row_cell h 1, row_cell h 2, row_cell h 3, row_cell h 4, row_cell h 5, row_cell h 6, row_cell h 7, row_cell h 8, row_cell h 9, row_cell h 10, row_cell h 11, row_cell h 12⟩
/-- a book and what was told on the way. -/
def tdv (d : Db) (v : Value) : Array Value := #[.int .i64 d.cap, .int .i64 d.meet, .slice d.p1 d.o1.length d.c1, .slice d.p2 d.o2.length d.c2, .int .u64 d.high, .int .u64 d.seq, v]
/-- events in memory, wherever. -/
def Rv (w : World) (v : Value) (es : List Ev) : Prop := w.ownsRow 0 58 13 v es.length (evs es)
theorem Rv.on {w w' : World} {v : Value} {es : List Ev} (h : Rv w v es) (hb : Below w.heap.size w w') : Rv w' v es := own_on h hb
def Db.told (d : Db) : Db := { d with seq := nx d.seq }
theorem dtell_any (d : Db) (p : Option Addr) (c : Nat) (es : List Ev) (e : Ev) (w : World) (he : Rv w (.slice p es.length c) es) (hn : es.length ≤ 17179869184) :
  Calls Try.prog 30 #[.agg (tdv d (.slice p es.length c)), .agg (ecs e).toArray] w fun r w' => ∃ p' c', r = .returned (.agg (tdv d.told (.slice p' (es.length + 1) c'))) ∧ Rv w' (.slice p' (es.length + 1) c') (es ++ [e.num (nx d.seq)]) ∧ Below w.heap.size w w' := by
 obtain ⟨i0, hi, hz0, hz1, hz2⟩ := info_parts info58all
 have HI := hid hi
 have HZ0 := hid hz0
 have HZ1 := hid hz1
 have HZ2 := hid hz2
 obtain ⟨m, hm⟩ : ∃ m, es.length = m := ⟨_, rfl⟩
 have HM := hid hm
 have HE := hid he
 obtain ⟨s, hs⟩ : ∃ s, nx d.seq = s := ⟨_, rfl⟩
 have HSS := hid hs
 have hs' : IntKind.u64.wrap (d.seq + 1) = s := hs
 obtain ⟨R, hR⟩ : ∃ R, w.heap.size = R := ⟨_, rfl⟩
 obtain ⟨U0, hU0⟩ : ∃ U, w.alloc (.cells #[.int .i64 d.cap, .int .i64 d.meet, .slice d.p1 d.o1.length d.c1, .slice d.p2 d.o2.length d.c2, .int .u64 d.high, .int .u64 d.seq, .slice p m c] 74) = U := ⟨_, rfl⟩
 obtain ⟨U1, hU1⟩ : ∃ U, U0.alloc (.cells #[.int .u64 e.sq, .int .i64 e.kd, .int .u64 e.id, .int .u64 e.ot, .int .u64 e.tg, .int .u32 e.mb, .int .i64 e.sd, .int .i64 e.ty, .int .i64 e.pr, .int .u64 e.qt, .int .u64 e.pk, .int .i64 e.rs, .int .i64 e.cd] 58) = U := ⟨_, rfl⟩
 obtain ⟨W1, hW1⟩ : ∃ U, U1.alloc (.cells #[.int .i64 0, .int .i64 0, .slice none 0 0, .slice none 0 0, .int .u64 0, .int .u64 0, .slice none 0 0] 74) = U := ⟨_, rfl⟩
 have s0 : U0.heap.size = R + 1 := by rw [← hU0, ← hR]; simp
 have s1 : U1.heap.size = R + 1 + 1 := by rw [← hU1]; simp [s0]
 have b0 : Below w.heap.size w U0 := by rw [← hU0]; exact ball _ _
 have b1 : Below U0.heap.size U0 U1 := by rw [← hU1]; exact ball _ _
 have b2 : Below U1.heap.size U1 W1 := by rw [← hW1]; exact ball _ _
 have hA : W1.heap[R]? = some (.cells #[.int .i64 d.cap, .int .i64 d.meet, .slice d.p1 d.o1.length d.c1, .slice d.p2 d.o2.length d.c2, .int .u64 d.high, .int .u64 d.seq, .slice p m c] 74 (0, 0)) := row_on (row_on (by rw [← hU0, ← hR]; exact World.alloc_heap_new _ _) b1) b2
 have hB : W1.heap[R + 1]? = some (.cells #[.int .u64 e.sq, .int .i64 e.kd, .int .u64 e.id, .int .u64 e.ot, .int .u64 e.tg, .int .u32 e.mb, .int .i64 e.sd, .int .i64 e.ty, .int .i64 e.pr, .int .u64 e.qt, .int .u64 e.pk, .int .i64 e.rs, .int .i64 e.cd] 58 (0, 0)) := row_on (by rw [← hU1, ← s0]; exact World.alloc_heap_new _ _) b2
 have hC : W1.heap[R + 1 + 1]? = some (.cells #[.int .i64 0, .int .i64 0, .slice none 0 0, .slice none 0 0, .int .u64 0, .int .u64 0, .slice none 0 0] 74 (0, 0)) := by rw [← hW1, ← s1]; exact World.alloc_heap_new _ _
 obtain ⟨W2, hW2⟩ : ∃ U, (W1.setCell ⟨R, 5, none⟩ (.int .u64 s)).setCell ⟨R + 1, 0, none⟩ (.int .u64 s) = U := ⟨_, rfl⟩
 have kW : Kp (fun j => j = R ∨ j = R + 1) W1 W2 := by
  rw [← hW2]
  exact ((Kp.set W1 R 5 _).mono (fun _ _ h => Or.inl h)).trans (Kp.set _ (R + 1) 0 _) (fun _ _ h => .inr h)
 have HBW := hid (show Below w.heap.size w W2 from (btr (btr b0 b1) b2).trans (kW.below (btr (btr b0 b1) b2).size (fun j hj h => by rcases h with h | h <;> omega)))
 have gA : W2.heap[R]? = some (.cells #[.int .i64 d.cap, .int .i64 d.meet, .slice d.p1 d.o1.length d.c1, .slice d.p2 d.o2.length d.c2, .int .u64 d.high, .int .u64 s, .slice p m c] 74 (0, 0)) := by
  have : (W1.setCell ⟨R, 5, none⟩ (.int .u64 s)).heap[R]? = some (.cells #[.int .i64 d.cap, .int .i64 d.meet, .slice d.p1 d.o1.length d.c1, .slice d.p2 d.o2.length d.c2, .int .u64 d.high, .int .u64 s, .slice p m c] 74 (0, 0)) := by rw [set_row _ hA]; rfl
  rw [← hW2]
  exact (Kp.set _ (R + 1) 0 _).row this (by omega)
 have gB : W2.heap[R + 1]? = some (.cells (ecs (e.num s)).toArray 58 (0, 0)) := by
  rw [← hW2, set_row _ ((Kp.set W1 R 5 _).row hB (by omega))]
  rfl
 have gC : W2.heap[R + 1 + 1]? = some (.cells #[.int .i64 0, .int .i64 0, .slice none 0 0, .slice none 0 0, .int .u64 0, .int .u64 0, .slice none 0 0] 74 (0, 0)) := kW.row hC (by omega)
 have HU0 := hid hU0
 have HU1 := hid hU1
 have HW1 := hid hW1
 have HW2 := hid hW2
 have HRR := hid hR
 have HA := hid gA
 have HB := hid gB
 have HC := hid gC
 have HEV := hid (fun (X : World) (hX : Below W2.heap.size W2 X) => (show X.ownsRow 0 58 13 (.slice p m c) m (evs es) from by rw [← HM.out]; exact own_on (own_on HE.out HBW.out) hX))
 have c5 := row_cell hA 5
 have f5 := row_frz hA 5
 have c0 := row_cell hB 0
 have f0 := row_frz hB 0
 simp only [List.getElem?_toArray, List.getElem?_cons_succ, List.getElem?_cons_zero] at c5 c0
 unfold tdv ecs
 rw [hm] at hn ⊢
 clear hi hz0 hz1 hz2 hm he hs hR hU0 hU1 hW1 hW2 s0 s1 b0 b1 b2 hA hB hC kW gA gB gC
 go_enter Try.func30, Try.ntmps30
 go_upto_region 1 with fail
 rw [HU0.out, HU1.out, HW1.out, HRR.out]
 go_upto_region 3 with fail
 rw [HW2.out]
 clear c5 f5 c0 f0
 have HMK := hid (fun (U : World) (G : Nat) (h : U.heap[G]? = some (.cells #[] 58 (0, 0))) (hG : W2.heap.size ≤ G) => (show U.ownsRow W2.heap.size 58 13 (.slice (some ⟨G, 0, none⟩) 0 0) 0 [] from ⟨by simp, .inr ⟨G, 0, #[], rfl, hG, h, Nat.le_refl _, by omega, by simp, by simp⟩⟩))
 have HSRC := hid (fun (U : World) (G : Nat) (h : U.heap[G]? = some (.cells #[.int .u64 s, .int .i64 e.kd, .int .u64 e.id, .int .u64 e.ot, .int .u64 e.tg, .int .u32 e.mb, .int .i64 e.sd, .int .i64 e.ty, .int .i64 e.pr, .int .u64 e.qt, .int .u64 e.pk, .int .i64 e.rs, .int .i64 e.cd] 58 (0, 0))) => (show U.ownsRow 0 58 13 (.slice (some ⟨G, 0, none⟩) 1 1) 1 (ecs (e.num s)) from ⟨by simp [ecs], .inr ⟨G, 1, #[.int .u64 s, .int .i64 e.kd, .int .u64 e.id, .int .u64 e.ot, .int .u64 e.tg, .int .u32 e.mb, .int .i64 e.sd, .int .i64 e.ty, .int .i64 e.pr, .int .u64 e.qt, .int .u64 e.pk, .int .i64 e.rs, .int .i64 e.cd], rfl, Nat.zero_le _, h, Nat.le_refl _, by unfold maxLen; omega, by simp, by simp [ecs, Ev.num]⟩⟩))
 have HEC := hid (fun (U : World) (hU : Below W2.heap.size W2 U) => ecs_at (row_on HB.out hU))
 have HECS := hid (fun (U : World) (v : Value) (hU : Below W2.heap.size W2 U) => ecs_at ((Kp.set U R 6 v).row (row_on HB.out hU) (by omega)))
 unfold Ev.num at HEC HECS
 simp only at HEC HECS
 have B0 := hid (bdrew1 W2)
 refine wp_region_held_drew (S := (fun U => U.cell? ⟨R + 1, 0, none⟩ = some (.int .u64 s) ∧ U.cell? ⟨R + 1, 1, none⟩ = some (.int .i64 e.kd) ∧ U.cell? ⟨R + 1, 2, none⟩ = some (.int .u64 e.id) ∧ U.cell? ⟨R + 1, 3, none⟩ = some (.int .u64 e.ot) ∧ U.cell? ⟨R + 1, 4, none⟩ = some (.int .u64 e.tg) ∧ U.cell? ⟨R + 1, 5, none⟩ = some (.int .u32 e.mb) ∧ U.cell? ⟨R + 1, 6, none⟩ = some (.int .i64 e.sd) ∧ U.cell? ⟨R + 1, 7, none⟩ = some (.int .i64 e.ty) ∧ U.cell? ⟨R + 1, 8, none⟩ = some (.int .i64 e.pr) ∧ U.cell? ⟨R + 1, 9, none⟩ = some (.int .u64 e.qt) ∧ U.cell? ⟨R + 1, 10, none⟩ = some (.int .u64 e.pk) ∧ U.cell? ⟨R + 1, 11, none⟩ = some (.int .i64 e.rs) ∧ U.cell? ⟨R + 1, 12, none⟩ = some (.int .i64 e.cd))) (by kernel_rfl) ?_ (fun hHeld => ?_)
 ·(try dsimp only); (exact HEC.out _ (bdrew1 _))
 obtain ⟨V0, hV0⟩ : ∃ X, W2.drew = X := ⟨_, rfl⟩
 rw [hV0] at B0 hHeld ⊢
 clear hV0
 refine' wpAnyH_take (i := 1) (oi := _) (v := _) rfl (by kernel_rfl) (by kernel_rfl) (by kernel_rfl) (fun _ _ _ h => h) (Or.inl ⟨by kernel_rfl, ?hyq1⟩) (by assumption) ?restq1
 case hyq1 => (intro w hSw; (try dsimp only at hSw); go_simp; try (with_reducible rfl))
 try simp only [List.getElem_toArray, List.getElem_cons_succ, List.getElem_cons_zero, Act.put, List.setIfInBounds_toArray, List.set_cons_zero, List.set_cons_succ]
 refine' wpAnyH_take (i := 4) (oi := _) (v := _) rfl (by kernel_rfl) (by kernel_rfl) (by kernel_rfl) (fun _ _ _ h => h) (Or.inl ⟨by kernel_rfl, ?hyq2⟩) (by assumption) ?restq2
 case hyq2 => (intro w hSw; (try dsimp only at hSw); go_simp; try (with_reducible rfl))
 try simp only [List.getElem_toArray, List.getElem_cons_succ, List.getElem_cons_zero, Act.put, List.setIfInBounds_toArray, List.set_cons_zero, List.set_cons_succ]
 refine wpAnyH_ready (rs := [0, 2, 5]) (by kernel_rfl) (by simp) ?_
 refine (AllReadyH.cons (o := _) rfl (fun K hK => ?_) (AllReadyH.cons (o := _) rfl (fun K hK => ?_) (AllReadyH.cons (o := _) rfl (fun K hK => ?_) AllReadyH.nil)))
 ·go_simp
  refine hK.out _ _ ?_ (fun hHeld => ?_)
  ·(try dsimp only); exact HEC.out _ (btr B0.out (ball _ _))
  clear hK K
  try simp only [List.getElem_toArray, List.getElem_cons_succ, List.getElem_cons_zero, Act.put, List.setIfInBounds_toArray, List.set_cons_zero, List.set_cons_succ]
  obtain ⟨X1, hX1⟩ : ∃ X, V0.alloc (.cells #[] 58) = X := ⟨_, rfl⟩
  have bX1 : Below V0.heap.size V0 X1 := by rw [← hX1]; exact ball _ _
  have BX1 := hid (btr B0.out bX1)
  have zX1 := World.alloc_heap_new V0 (.cells #[] 58)
  have yX1 := B0.out.size
  obtain ⟨g2, hg2⟩ : ∃ g, V0.heap.size = g := ⟨_, rfl⟩
  rw [hX1, hg2] at zX1
  rw [hg2] at yX1
  rw [hX1, hg2]
  have MX1 := hid (HMK.out X1 g2 zX1 yX1)
  clear hX1 hg2 zX1
  refine wpAnyH_ready (rs := [2, 5]) (by kernel_rfl) (by simp) ?_
  refine (AllReadyH.cons (o := _) rfl (fun K hK => ?_) (AllReadyH.cons (o := _) rfl (fun K hK => ?_) AllReadyH.nil))
  ·obtain ⟨a0, a1, a2, a3, a4, a5, a6⟩ := row7 (row_on HA.out BX1.out)
   go_simp
   refine hK.out _ _ ?_ (fun hHeld => ?_)
   ·(try dsimp only); exact HEC.out _ BX1.out
   clear hK K a0 a1 a2 a3 a4 a5 a6
   try simp only [List.getElem_toArray, List.getElem_cons_succ, List.getElem_cons_zero, Act.put, List.setIfInBounds_toArray, List.set_cons_zero, List.set_cons_succ]
   refine wpAnyH_ready (rs := [3, 5]) (by kernel_rfl) (by simp) ?_
   refine (AllReadyH.cons (o := _) rfl (fun K hK => ?_) (AllReadyH.cons (o := _) rfl (fun K hK => ?_) AllReadyH.nil))
   ·have sz := BX1.out.size
    refine step_app_rows (by rfl) (.tmp 15) (.tmp 17) 35 (by rfl) W2.heap.size 0 58 i0 _ 13 104 Try.underlying35 HI.out HZ0.out HZ1.out HZ2.out rfl (by decide) (.slice (some ⟨g2, 0, none⟩) 0 0) 0 [] (by rfl) MX1.out (.slice p m c) m (evs es) (by rfl) (HEV.out _ BX1.out) (evs_one _) (by unfold maxLen; omega) (by omega) sz ?_
    intro v1 X3 hown hgrow
    obtain ⟨pX3, qX3, rfl⟩ := own_form hown
    rw [Nat.zero_add, List.nil_append] at hown
    have BX3 := hid (BX1.out.grown hgrow sz (fun j hj => (MX1.out.lt j hj).1))
    have OX3 := hid hown
    refine hK.out _ _ ?_ (fun hHeld => ?_)
    ·(try dsimp only); exact HEC.out _ BX3.out
    clear hK K hown hgrow sz
    (try simp only [Nat.zero_add])
    try simp only [List.getElem_toArray, List.getElem_cons_succ, List.getElem_cons_zero, Act.put, List.setIfInBounds_toArray, List.set_cons_zero, List.set_cons_succ]
    refine wpAnyH_ready (rs := [5]) (by kernel_rfl) (by simp) ?_
    refine (AllReadyH.cons (o := _) rfl (fun K hK => ?_) AllReadyH.nil)
    go_simp
    refine hK.out _ _ ?_ (fun hHeld => ?_)
    ·(try dsimp only); exact HEC.out _ (btr BX3.out (ball _ _))
    clear hK K
    try simp only [List.getElem_toArray, List.getElem_cons_succ, List.getElem_cons_zero, Act.put, List.setIfInBounds_toArray, List.set_cons_zero, List.set_cons_succ]
    obtain ⟨X4, hX4⟩ : ∃ X, X3.alloc (.cells #[.int .u64 s, .int .i64 e.kd, .int .u64 e.id, .int .u64 e.ot, .int .u64 e.tg, .int .u32 e.mb, .int .i64 e.sd, .int .i64 e.ty, .int .i64 e.pr, .int .u64 e.qt, .int .u64 e.pk, .int .i64 e.rs, .int .i64 e.cd] 58) = X := ⟨_, rfl⟩
    have bX4 : Below X3.heap.size X3 X4 := by rw [← hX4]; exact ball _ _
    have BX4 := hid (btr BX3.out bX4)
    have zX4 := World.alloc_heap_new X3 (.cells #[.int .u64 s, .int .i64 e.kd, .int .u64 e.id, .int .u64 e.ot, .int .u64 e.tg, .int .u32 e.mb, .int .i64 e.sd, .int .i64 e.ty, .int .i64 e.pr, .int .u64 e.qt, .int .u64 e.pk, .int .i64 e.rs, .int .i64 e.cd] 58)
    have yX4 := BX3.out.size
    obtain ⟨g5, hg5⟩ : ∃ g, X3.heap.size = g := ⟨_, rfl⟩
    rw [hX4, hg5] at zX4
    rw [hg5] at yX4
    rw [hX4, hg5]
    have OX4 := hid (own_on OX3.out (bX4))
    have SX4 := hid zX4
    clear hX4 hg5 zX4
    refine wpAnyH_ready (rs := [6]) (by kernel_rfl) (by simp) ?_
    refine (AllReadyH.cons (o := _) rfl (fun K hK => ?_) AllReadyH.nil)
    have sz := BX4.out.size
    refine step_app_rows (by rfl) (.tmp 18) (.tmp 20) 35 (by rfl) W2.heap.size 0 58 i0 _ 13 104 Try.underlying35 HI.out HZ0.out HZ1.out HZ2.out rfl (by decide) (.slice pX3 m qX3) m (evs es) (by rfl) OX4.out (.slice (some ⟨g5, 0, none⟩) 1 1) 1 (ecs (e.num s)) (by rfl) (HSRC.out _ _ SX4.out) (ecs_one _) (by unfold maxLen; omega) (by omega) sz ?_
    intro v2 X6 hown hgrow
    obtain ⟨pX6, qX6, rfl⟩ := own_form hown
    have BX6 := hid (BX4.out.grown hgrow sz (fun j hj => (OX4.out.lt j hj).1))
    have OX6 := hid hown
    refine hK.out _ _ ?_ (fun hHeld => ?_)
    ·(try dsimp only); exact HEC.out _ BX6.out
    clear hK K hown hgrow sz
    try simp only [List.getElem_toArray, List.getElem_cons_succ, List.getElem_cons_zero, Act.put, List.setIfInBounds_toArray, List.set_cons_zero, List.set_cons_succ]
    refine' wpAnyH_take (i := 7) (oi := _) (v := _) rfl (by kernel_rfl) (by kernel_rfl) (by kernel_rfl) (fun _ _ _ h => h) (Or.inl ⟨by kernel_rfl, ?hyq3⟩) (by assumption) ?restq3
    case hyq3 => (intro w hSw; (try dsimp only at hSw); go_simp; try (with_reducible rfl))
    try simp only [List.getElem_toArray, List.getElem_cons_succ, List.getElem_cons_zero, Act.put, List.setIfInBounds_toArray, List.set_cons_zero, List.set_cons_succ]
    refine wpAnyH_ready (rs := [8]) (by kernel_rfl) (by simp) ?_
    refine AllReadyH.cons (o := _) rfl (fun K hK => ?_) AllReadyH.nil
    obtain ⟨a0, a1, a2, a3, a4, a5, a6⟩ := row7 (row_on HA.out BX6.out)
    have f6 := row_frz (row_on HA.out BX6.out) 6
    go_simp
    refine hK.out _ _ ?_ (fun hHeld => ?_)
    ·(try dsimp only); exact HECS.out _ _ BX6.out
    clear hK K a0 a1 a2 a3 a4 a5 a6 f6
    try simp only [List.getElem_toArray, List.getElem_cons_succ, List.getElem_cons_zero, Act.put, List.setIfInBounds_toArray, List.set_cons_zero, List.set_cons_succ]
    refine wpAnyH_done (by kernel_rfl) ?_ _
    obtain ⟨W3, hW3⟩ : ∃ X, X6.setCell ⟨R, 6, none⟩ (.slice pX6 (m + 1) qX6) = X := ⟨_, rfl⟩
    have k3 : Kp (fun j => j = R) X6 W3 := by rw [← hW3]; exact Kp.set _ _ _ _
    have r3 : W3.heap[R]? = some (.cells #[.int .i64 d.cap, .int .i64 d.meet, .slice d.p1 d.o1.length d.c1, .slice d.p2 d.o2.length d.c2, .int .u64 d.high, .int .u64 s, .slice pX6 (m + 1) qX6] 74 (0, 0)) := by rw [← hW3, set_row _ (row_on HA.out BX6.out)]; rfl
    have HC3 := hid (k3.row (row_on HC.out BX6.out) (by omega))
    have hw1 := btr HBW.out BX6.out
    have HB3 := hid (show Below w.heap.size w W3 from hw1.trans (k3.below hw1.size (fun b hb e => by have := HRR.out; omega)))
    have HO3 := hid (show W3.ownsRow W2.heap.size 58 13 (.slice pX6 (m + 1) qX6) (m + 1) (evs es ++ ecs (e.num s)) from own_same OX6.out (fun g hg => k3.obj g (OX6.out.lt g hg).2 (by have h1 := (OX6.out.lt g hg).1; have h2 := row_lt HA.out; omega)))
    rw [hW3]
    clear hW3 k3 hw1
    obtain ⟨a0, a1, a2, a3, a4, a5, a6⟩ := row7 r3
    clear r3
    have AI := hid (show (Try.prog.info? 74).map (·.size) = some (#[.int .i64 d.cap, .int .i64 d.meet, .slice d.p1 d.o1.length d.c1, .slice d.p2 d.o2.length d.c2, .int .u64 d.high, .int .u64 s, .slice pX6 (m + 1) qX6] : Array Value).size from info74)
    have AS := hid (show (#[.int .i64 0, .int .i64 0, .slice none 0 0, .slice none 0 0, .int .u64 0, .int .u64 0, .slice none 0 0] : Array Value).size = (#[.int .i64 d.cap, .int .i64 d.meet, .slice d.p1 d.o1.length d.c1, .slice d.p2 d.o2.length d.c2, .int .u64 d.high, .int .u64 s, .slice pX6 (m + 1) qX6] : Array Value).size from rfl)
    have AA := hid (show (#[.int .i64 d.cap, .int .i64 d.meet, .slice d.p1 d.o1.length d.c1, .slice d.p2 d.o2.length d.c2, .int .u64 d.high, .int .u64 s, .slice pX6 (m + 1) qX6] : Array Value).all (·.oneCell') = true from by simp [Value.oneCell'])
    go_wp2_with (refine wpList_store_row (by rfl) 74 (.tmp 4) (.tmp 23) (by rfl) (R + 1 + 1) #[.int .i64 d.cap, .int .i64 d.meet, .slice d.p1 d.o1.length d.c1, .slice d.p2 d.o2.length d.c2, .int .u64 d.high, .int .u64 s, .slice pX6 (m + 1) qX6] (by rfl) (by rfl) 74 _ HC3.out AI.out AS.out AA.out ?_)
    refine bodyPost_ret (results_cell_row (fn := Try.f30) Try.results30 _ _ (R + 1 + 1) 74 #[.int .i64 d.cap, .int .i64 d.meet, .slice d.p1 d.o1.length d.c1, .slice d.p2 d.o2.length d.c2, .int .u64 d.high, .int .u64 s, .slice pX6 (m + 1) qX6] (0, 0) _ (by rfl) (setRow_heap _ _ _ _ 74 (0, 0) HC3.out) Try.underlying74 rfl info74) rfl ⟨pX6, qX6, ?_, ?_, ?_⟩
    ·rw [← HSS.out]; rfl
    ·unfold Rv; rw [List.length_append, HM.out, evs_snoc, HSS.out]; exact own_base (own_same HO3.out (fun g hg => (setRow_kp W3 (R + 1 + 1) _).obj g (HO3.out.lt g hg).2 (by have h1 := (HO3.out.lt g hg).1; have h2 := row_lt HC.out; omega))) (Nat.zero_le _)
    ·exact setRow_below HB3.out (by have := HRR.out; omega)
   ·go_simp
    refine hK.out _ _ ?_ (fun hHeld => ?_)
    ·(try dsimp only); exact HEC.out _ (btr BX1.out (ball _ _))
    clear hK K
    try simp only [List.getElem_toArray, List.getElem_cons_succ, List.getElem_cons_zero, Act.put, List.setIfInBounds_toArray, List.set_cons_zero, List.set_cons_succ]
    obtain ⟨X7, hX7⟩ : ∃ X, X1.alloc (.cells #[.int .u64 s, .int .i64 e.kd, .int .u64 e.id, .int .u64 e.ot, .int .u64 e.tg, .int .u32 e.mb, .int .i64 e.sd, .int .i64 e.ty, .int .i64 e.pr, .int .u64 e.qt, .int .u64 e.pk, .int .i64 e.rs, .int .i64 e.cd] 58) = X := ⟨_, rfl⟩
    have bX7 : Below X1.heap.size X1 X7 := by rw [← hX7]; exact ball _ _
    have BX7 := hid (btr BX1.out bX7)
    have zX7 := World.alloc_heap_new X1 (.cells #[.int .u64 s, .int .i64 e.kd, .int .u64 e.id, .int .u64 e.ot, .int .u64 e.tg, .int .u32 e.mb, .int .i64 e.sd, .int .i64 e.ty, .int .i64 e.pr, .int .u64 e.qt, .int .u64 e.pk, .int .i64 e.rs, .int .i64 e.cd] 58)
    have yX7 := BX1.out.size
    obtain ⟨g8, hg8⟩ : ∃ g, X1.heap.size = g := ⟨_, rfl⟩
    rw [hX7, hg8] at zX7
    rw [hg8] at yX7
    rw [hX7, hg8]
    have MX7 := hid (own_on MX1.out (bX7))
    have SX7 := hid zX7
    have ne : g2 ≠ g8 := by have := (MX1.out.lt g2 rfl).2; omega
    clear hX7 hg8 zX7
    refine wpAnyH_ready (rs := [3]) (by kernel_rfl) (by simp) ?_
    refine (AllReadyH.cons (o := _) rfl (fun K hK => ?_) AllReadyH.nil)
    have sz := BX7.out.size
    refine step_app_rows (by rfl) (.tmp 15) (.tmp 17) 35 (by rfl) W2.heap.size 0 58 i0 _ 13 104 Try.underlying35 HI.out HZ0.out HZ1.out HZ2.out rfl (by decide) (.slice (some ⟨g2, 0, none⟩) 0 0) 0 [] (by rfl) MX7.out (.slice p m c) m (evs es) (by rfl) (HEV.out _ BX7.out) (evs_one _) (by unfold maxLen; omega) (by omega) sz ?_
    intro v1 X9 hown hgrow
    obtain ⟨pX9, qX9, rfl⟩ := own_form hown
    rw [Nat.zero_add, List.nil_append] at hown
    have BX9 := hid (BX7.out.grown hgrow sz (fun j hj => (MX7.out.lt j hj).1))
    have OX9 := hid hown
    have SX9 := hid ((hgrow.block g8 (row_lt SX7.out) (by intro e; injection e with e; exact ne e.symm)).trans SX7.out)
    refine hK.out _ _ ?_ (fun hHeld => ?_)
    ·(try dsimp only); exact HEC.out _ BX9.out
    clear hK K hown hgrow sz
    (try simp only [Nat.zero_add])
    try simp only [List.getElem_toArray, List.getElem_cons_succ, List.getElem_cons_zero, Act.put, List.setIfInBounds_toArray, List.set_cons_zero, List.set_cons_succ]
    refine wpAnyH_ready (rs := [6]) (by kernel_rfl) (by simp) ?_
    refine (AllReadyH.cons (o := _) rfl (fun K hK => ?_) AllReadyH.nil)
    have sz := BX9.out.size
    refine step_app_rows (by rfl) (.tmp 18) (.tmp 20) 35 (by rfl) W2.heap.size 0 58 i0 _ 13 104 Try.underlying35 HI.out HZ0.out HZ1.out HZ2.out rfl (by decide) (.slice pX9 m qX9) m (evs es) (by rfl) OX9.out (.slice (some ⟨g8, 0, none⟩) 1 1) 1 (ecs (e.num s)) (by rfl) (HSRC.out _ _ SX9.out) (ecs_one _) (by unfold maxLen; omega) (by omega) sz ?_
    intro v2 X10 hown hgrow
    obtain ⟨pX10, qX10, rfl⟩ := own_form hown
    have BX10 := hid (BX9.out.grown hgrow sz (fun j hj => (OX9.out.lt j hj).1))
    have OX10 := hid hown
    refine hK.out _ _ ?_ (fun hHeld => ?_)
    ·(try dsimp only); exact HEC.out _ BX10.out
    clear hK K hown hgrow sz
    try simp only [List.getElem_toArray, List.getElem_cons_succ, List.getElem_cons_zero, Act.put, List.setIfInBounds_toArray, List.set_cons_zero, List.set_cons_succ]
    refine' wpAnyH_take (i := 7) (oi := _) (v := _) rfl (by kernel_rfl) (by kernel_rfl) (by kernel_rfl) (fun _ _ _ h => h) (Or.inl ⟨by kernel_rfl, ?hyq4⟩) (by assumption) ?restq4
    case hyq4 => (intro w hSw; (try dsimp only at hSw); go_simp; try (with_reducible rfl))
    try simp only [List.getElem_toArray, List.getElem_cons_succ, List.getElem_cons_zero, Act.put, List.setIfInBounds_toArray, List.set_cons_zero, List.set_cons_succ]
    refine wpAnyH_ready (rs := [8]) (by kernel_rfl) (by simp) ?_
    refine AllReadyH.cons (o := _) rfl (fun K hK => ?_) AllReadyH.nil
    obtain ⟨a0, a1, a2, a3, a4, a5, a6⟩ := row7 (row_on HA.out BX10.out)
    have f6 := row_frz (row_on HA.out BX10.out) 6
    go_simp
    refine hK.out _ _ ?_ (fun hHeld => ?_)
    ·(try dsimp only); exact HECS.out _ _ BX10.out
    clear hK K a0 a1 a2 a3 a4 a5 a6 f6
    try simp only [List.getElem_toArray, List.getElem_cons_succ, List.getElem_cons_zero, Act.put, List.setIfInBounds_toArray, List.set_cons_zero, List.set_cons_succ]
    refine wpAnyH_done (by kernel_rfl) ?_ _
    obtain ⟨W3, hW3⟩ : ∃ X, X10.setCell ⟨R, 6, none⟩ (.slice pX10 (m + 1) qX10) = X := ⟨_, rfl⟩
    have k3 : Kp (fun j => j = R) X10 W3 := by rw [← hW3]; exact Kp.set _ _ _ _
    have r3 : W3.heap[R]? = some (.cells #[.int .i64 d.cap, .int .i64 d.meet, .slice d.p1 d.o1.length d.c1, .slice d.p2 d.o2.length d.c2, .int .u64 d.high, .int .u64 s, .slice pX10 (m + 1) qX10] 74 (0, 0)) := by rw [← hW3, set_row _ (row_on HA.out BX10.out)]; rfl
    have HC3 := hid (k3.row (row_on HC.out BX10.out) (by omega))
    have hw1 := btr HBW.out BX10.out
    have HB3 := hid (show Below w.heap.size w W3 from hw1.trans (k3.below hw1.size (fun b hb e => by have := HRR.out; omega)))
    have HO3 := hid (show W3.ownsRow W2.heap.size 58 13 (.slice pX10 (m + 1) qX10) (m + 1) (evs es ++ ecs (e.num s)) from own_same OX10.out (fun g hg => k3.obj g (OX10.out.lt g hg).2 (by have h1 := (OX10.out.lt g hg).1; have h2 := row_lt HA.out; omega)))
    rw [hW3]
    clear hW3 k3 hw1
    obtain ⟨a0, a1, a2, a3, a4, a5, a6⟩ := row7 r3
    clear r3
    have AI := hid (show (Try.prog.info? 74).map (·.size) = some (#[.int .i64 d.cap, .int .i64 d.meet, .slice d.p1 d.o1.length d.c1, .slice d.p2 d.o2.length d.c2, .int .u64 d.high, .int .u64 s, .slice pX10 (m + 1) qX10] : Array Value).size from info74)
    have AS := hid (show (#[.int .i64 0, .int .i64 0, .slice none 0 0, .slice none 0 0, .int .u64 0, .int .u64 0, .slice none 0 0] : Array Value).size = (#[.int .i64 d.cap, .int .i64 d.meet, .slice d.p1 d.o1.length d.c1, .slice d.p2 d.o2.length d.c2, .int .u64 d.high, .int .u64 s, .slice pX10 (m + 1) qX10] : Array Value).size from rfl)
    have AA := hid (show (#[.int .i64 d.cap, .int .i64 d.meet, .slice d.p1 d.o1.length d.c1, .slice d.p2 d.o2.length d.c2, .int .u64 d.high, .int .u64 s, .slice pX10 (m + 1) qX10] : Array Value).all (·.oneCell') = true from by simp [Value.oneCell'])
    go_wp2_with (refine wpList_store_row (by rfl) 74 (.tmp 4) (.tmp 23) (by rfl) (R + 1 + 1) #[.int .i64 d.cap, .int .i64 d.meet, .slice d.p1 d.o1.length d.c1, .slice d.p2 d.o2.length d.c2, .int .u64 d.high, .int .u64 s, .slice pX10 (m + 1) qX10] (by rfl) (by rfl) 74 _ HC3.out AI.out AS.out AA.out ?_)
    refine bodyPost_ret (results_cell_row (fn := Try.f30) Try.results30 _ _ (R + 1 + 1) 74 #[.int .i64 d.cap, .int .i64 d.meet, .slice d.p1 d.o1.length d.c1, .slice d.p2 d.o2.length d.c2, .int .u64 d.high, .int .u64 s, .slice pX10 (m + 1) qX10] (0, 0) _ (by rfl) (setRow_heap _ _ _ _ 74 (0, 0) HC3.out) Try.underlying74 rfl info74) rfl ⟨pX10, qX10, ?_, ?_, ?_⟩
    ·rw [← HSS.out]; rfl
    ·unfold Rv; rw [List.length_append, HM.out, evs_snoc, HSS.out]; exact own_base (own_same HO3.out (fun g hg => (setRow_kp W3 (R + 1 + 1) _).obj g (HO3.out.lt g hg).2 (by have h1 := (HO3.out.lt g hg).1; have h2 := row_lt HC.out; omega))) (Nat.zero_le _)
    ·exact setRow_below HB3.out (by have := HRR.out; omega)
  ·go_simp
   refine hK.out _ _ ?_ (fun hHeld => ?_)
   ·(try dsimp only); exact HEC.out _ (btr BX1.out (ball _ _))
   clear hK K
   try simp only [List.getElem_toArray, List.getElem_cons_succ, List.getElem_cons_zero, Act.put, List.setIfInBounds_toArray, List.set_cons_zero, List.set_cons_succ]
   obtain ⟨X11, hX11⟩ : ∃ X, X1.alloc (.cells #[.int .u64 s, .int .i64 e.kd, .int .u64 e.id, .int .u64 e.ot, .int .u64 e.tg, .int .u32 e.mb, .int .i64 e.sd, .int .i64 e.ty, .int .i64 e.pr, .int .u64 e.qt, .int .u64 e.pk, .int .i64 e.rs, .int .i64 e.cd] 58) = X := ⟨_, rfl⟩
   have bX11 : Below X1.heap.size X1 X11 := by rw [← hX11]; exact ball _ _
   have BX11 := hid (btr BX1.out bX11)
   have zX11 := World.alloc_heap_new X1 (.cells #[.int .u64 s, .int .i64 e.kd, .int .u64 e.id, .int .u64 e.ot, .int .u64 e.tg, .int .u32 e.mb, .int .i64 e.sd, .int .i64 e.ty, .int .i64 e.pr, .int .u64 e.qt, .int .u64 e.pk, .int .i64 e.rs, .int .i64 e.cd] 58)
   have yX11 := BX1.out.size
   obtain ⟨g12, hg12⟩ : ∃ g, X1.heap.size = g := ⟨_, rfl⟩
   rw [hX11, hg12] at zX11
   rw [hg12] at yX11
   rw [hX11, hg12]
   have MX11 := hid (own_on MX1.out (bX11))
   have SX11 := hid zX11
   have ne : g2 ≠ g12 := by have := (MX1.out.lt g2 rfl).2; omega
   clear hX11 hg12 zX11
   refine wpAnyH_ready (rs := [2]) (by kernel_rfl) (by simp) ?_
   refine (AllReadyH.cons (o := _) rfl (fun K hK => ?_) AllReadyH.nil)
   obtain ⟨a0, a1, a2, a3, a4, a5, a6⟩ := row7 (row_on HA.out BX11.out)
   go_simp
   refine hK.out _ _ ?_ (fun hHeld => ?_)
   ·(try dsimp only); exact HEC.out _ BX11.out
   clear hK K a0 a1 a2 a3 a4 a5 a6
   try simp only [List.getElem_toArray, List.getElem_cons_succ, List.getElem_cons_zero, Act.put, List.setIfInBounds_toArray, List.set_cons_zero, List.set_cons_succ]
   refine wpAnyH_ready (rs := [3]) (by kernel_rfl) (by simp) ?_
   refine (AllReadyH.cons (o := _) rfl (fun K hK => ?_) AllReadyH.nil)
   have sz := BX11.out.size
   refine step_app_rows (by rfl) (.tmp 15) (.tmp 17) 35 (by rfl) W2.heap.size 0 58 i0 _ 13 104 Try.underlying35 HI.out HZ0.out HZ1.out HZ2.out rfl (by decide) (.slice (some ⟨g2, 0, none⟩) 0 0) 0 [] (by rfl) MX11.out (.slice p m c) m (evs es) (by rfl) (HEV.out _ BX11.out) (evs_one _) (by unfold maxLen; omega) (by omega) sz ?_
   intro v1 X13 hown hgrow
   obtain ⟨pX13, qX13, rfl⟩ := own_form hown
   rw [Nat.zero_add, List.nil_append] at hown
   have BX13 := hid (BX11.out.grown hgrow sz (fun j hj => (MX11.out.lt j hj).1))
   have OX13 := hid hown
   have SX13 := hid ((hgrow.block g12 (row_lt SX11.out) (by intro e; injection e with e; exact ne e.symm)).trans SX11.out)
   refine hK.out _ _ ?_ (fun hHeld => ?_)
   ·(try dsimp only); exact HEC.out _ BX13.out
   clear hK K hown hgrow sz
   (try simp only [Nat.zero_add])
   try simp only [List.getElem_toArray, List.getElem_cons_succ, List.getElem_cons_zero, Act.put, List.setIfInBounds_toArray, List.set_cons_zero, List.set_cons_succ]
   refine wpAnyH_ready (rs := [6]) (by kernel_rfl) (by simp) ?_
   refine (AllReadyH.cons (o := _) rfl (fun K hK => ?_) AllReadyH.nil)
   have sz := BX13.out.size
   refine step_app_rows (by rfl) (.tmp 18) (.tmp 20) 35 (by rfl) W2.heap.size 0 58 i0 _ 13 104 Try.underlying35 HI.out HZ0.out HZ1.out HZ2.out rfl (by decide) (.slice pX13 m qX13) m (evs es) (by rfl) OX13.out (.slice (some ⟨g12, 0, none⟩) 1 1) 1 (ecs (e.num s)) (by rfl) (HSRC.out _ _ SX13.out) (ecs_one _) (by unfold maxLen; omega) (by omega) sz ?_
   intro v2 X14 hown hgrow
   obtain ⟨pX14, qX14, rfl⟩ := own_form hown
   have BX14 := hid (BX13.out.grown hgrow sz (fun j hj => (OX13.out.lt j hj).1))
   have OX14 := hid hown
   refine hK.out _ _ ?_ (fun hHeld => ?_)
   ·(try dsimp only); exact HEC.out _ BX14.out
   clear hK K hown hgrow sz
   try simp only [List.getElem_toArray, List.getElem_cons_succ, List.getElem_cons_zero, Act.put, List.setIfInBounds_toArray, List.set_cons_zero, List.set_cons_succ]
   refine' wpAnyH_take (i := 7) (oi := _) (v := _) rfl (by kernel_rfl) (by kernel_rfl) (by kernel_rfl) (fun _ _ _ h => h) (Or.inl ⟨by kernel_rfl, ?hyq5⟩) (by assumption) ?restq5
   case hyq5 => (intro w hSw; (try dsimp only at hSw); go_simp; try (with_reducible rfl))
   try simp only [List.getElem_toArray, List.getElem_cons_succ, List.getElem_cons_zero, Act.put, List.setIfInBounds_toArray, List.set_cons_zero, List.set_cons_succ]
   refine wpAnyH_ready (rs := [8]) (by kernel_rfl) (by simp) ?_
   refine AllReadyH.cons (o := _) rfl (fun K hK => ?_) AllReadyH.nil
   obtain ⟨a0, a1, a2, a3, a4, a5, a6⟩ := row7 (row_on HA.out BX14.out)
   have f6 := row_frz (row_on HA.out BX14.out) 6
   go_simp
   refine hK.out _ _ ?_ (fun hHeld => ?_)
   ·(try dsimp only); exact HECS.out _ _ BX14.out
   clear hK K a0 a1 a2 a3 a4 a5 a6 f6
   try simp only [List.getElem_toArray, List.getElem_cons_succ, List.getElem_cons_zero, Act.put, List.setIfInBounds_toArray, List.set_cons_zero, List.set_cons_succ]
   refine wpAnyH_done (by kernel_rfl) ?_ _
   obtain ⟨W3, hW3⟩ : ∃ X, X14.setCell ⟨R, 6, none⟩ (.slice pX14 (m + 1) qX14) = X := ⟨_, rfl⟩
   have k3 : Kp (fun j => j = R) X14 W3 := by rw [← hW3]; exact Kp.set _ _ _ _
   have r3 : W3.heap[R]? = some (.cells #[.int .i64 d.cap, .int .i64 d.meet, .slice d.p1 d.o1.length d.c1, .slice d.p2 d.o2.length d.c2, .int .u64 d.high, .int .u64 s, .slice pX14 (m + 1) qX14] 74 (0, 0)) := by rw [← hW3, set_row _ (row_on HA.out BX14.out)]; rfl
   have HC3 := hid (k3.row (row_on HC.out BX14.out) (by omega))
   have hw1 := btr HBW.out BX14.out
   have HB3 := hid (show Below w.heap.size w W3 from hw1.trans (k3.below hw1.size (fun b hb e => by have := HRR.out; omega)))
   have HO3 := hid (show W3.ownsRow W2.heap.size 58 13 (.slice pX14 (m + 1) qX14) (m + 1) (evs es ++ ecs (e.num s)) from own_same OX14.out (fun g hg => k3.obj g (OX14.out.lt g hg).2 (by have h1 := (OX14.out.lt g hg).1; have h2 := row_lt HA.out; omega)))
   rw [hW3]
   clear hW3 k3 hw1
   obtain ⟨a0, a1, a2, a3, a4, a5, a6⟩ := row7 r3
   clear r3
   have AI := hid (show (Try.prog.info? 74).map (·.size) = some (#[.int .i64 d.cap, .int .i64 d.meet, .slice d.p1 d.o1.length d.c1, .slice d.p2 d.o2.length d.c2, .int .u64 d.high, .int .u64 s, .slice pX14 (m + 1) qX14] : Array Value).size from info74)
   have AS := hid (show (#[.int .i64 0, .int .i64 0, .slice none 0 0, .slice none 0 0, .int .u64 0, .int .u64 0, .slice none 0 0] : Array Value).size = (#[.int .i64 d.cap, .int .i64 d.meet, .slice d.p1 d.o1.length d.c1, .slice d.p2 d.o2.length d.c2, .int .u64 d.high, .int .u64 s, .slice pX14 (m + 1) qX14] : Array Value).size from rfl)
   have AA := hid (show (#[.int .i64 d.cap, .int .i64 d.meet, .slice d.p1 d.o1.length d.c1, .slice d.p2 d.o2.length d.c2, .int .u64 d.high, .int .u64 s, .slice pX14 (m + 1) qX14] : Array Value).all (·.oneCell') = true from by simp [Value.oneCell'])
   go_wp2_with (refine wpList_store_row (by rfl) 74 (.tmp 4) (.tmp 23) (by rfl) (R + 1 + 1) #[.int .i64 d.cap, .int .i64 d.meet, .slice d.p1 d.o1.length d.c1, .slice d.p2 d.o2.length d.c2, .int .u64 d.high, .int .u64 s, .slice pX14 (m + 1) qX14] (by rfl) (by rfl) 74 _ HC3.out AI.out AS.out AA.out ?_)
   refine bodyPost_ret (results_cell_row (fn := Try.f30) Try.results30 _ _ (R + 1 + 1) 74 #[.int .i64 d.cap, .int .i64 d.meet, .slice d.p1 d.o1.length d.c1, .slice d.p2 d.o2.length d.c2, .int .u64 d.high, .int .u64 s, .slice pX14 (m + 1) qX14] (0, 0) _ (by rfl) (setRow_heap _ _ _ _ 74 (0, 0) HC3.out) Try.underlying74 rfl info74) rfl ⟨pX14, qX14, ?_, ?_, ?_⟩
   ·rw [← HSS.out]; rfl
   ·unfold Rv; rw [List.length_append, HM.out, evs_snoc, HSS.out]; exact own_base (own_same HO3.out (fun g hg => (setRow_kp W3 (R + 1 + 1) _).obj g (HO3.out.lt g hg).2 (by have h1 := (HO3.out.lt g hg).1; have h2 := row_lt HC.out; omega))) (Nat.zero_le _)
   ·exact setRow_below HB3.out (by have := HRR.out; omega)
 ·obtain ⟨a0, a1, a2, a3, a4, a5, a6⟩ := row7 (row_on HA.out B0.out)
  go_simp
  refine hK.out _ _ ?_ (fun hHeld => ?_)
  ·(try dsimp only); exact HEC.out _ B0.out
  clear hK K a0 a1 a2 a3 a4 a5 a6
  try simp only [List.getElem_toArray, List.getElem_cons_succ, List.getElem_cons_zero, Act.put, List.setIfInBounds_toArray, List.set_cons_zero, List.set_cons_succ]
  refine wpAnyH_ready (rs := [0, 5]) (by kernel_rfl) (by simp) ?_
  refine (AllReadyH.cons (o := _) rfl (fun K hK => ?_) (AllReadyH.cons (o := _) rfl (fun K hK => ?_) AllReadyH.nil))
  ·go_simp
   refine hK.out _ _ ?_ (fun hHeld => ?_)
   ·(try dsimp only); exact HEC.out _ (btr B0.out (ball _ _))
   clear hK K
   try simp only [List.getElem_toArray, List.getElem_cons_succ, List.getElem_cons_zero, Act.put, List.setIfInBounds_toArray, List.set_cons_zero, List.set_cons_succ]
   obtain ⟨X15, hX15⟩ : ∃ X, V0.alloc (.cells #[] 58) = X := ⟨_, rfl⟩
   have bX15 : Below V0.heap.size V0 X15 := by rw [← hX15]; exact ball _ _
   have BX15 := hid (btr B0.out bX15)
   have zX15 := World.alloc_heap_new V0 (.cells #[] 58)
   have yX15 := B0.out.size
   obtain ⟨g16, hg16⟩ : ∃ g, V0.heap.size = g := ⟨_, rfl⟩
   rw [hX15, hg16] at zX15
   rw [hg16] at yX15
   rw [hX15, hg16]
   have MX15 := hid (HMK.out X15 g16 zX15 yX15)
   clear hX15 hg16 zX15
   refine wpAnyH_ready (rs := [3, 5]) (by kernel_rfl) (by simp) ?_
   refine (AllReadyH.cons (o := _) rfl (fun K hK => ?_) (AllReadyH.cons (o := _) rfl (fun K hK => ?_) AllReadyH.nil))
   ·have sz := BX15.out.size
    refine step_app_rows (by rfl) (.tmp 15) (.tmp 17) 35 (by rfl) W2.heap.size 0 58 i0 _ 13 104 Try.underlying35 HI.out HZ0.out HZ1.out HZ2.out rfl (by decide) (.slice (some ⟨g16, 0, none⟩) 0 0) 0 [] (by rfl) MX15.out (.slice p m c) m (evs es) (by rfl) (HEV.out _ BX15.out) (evs_one _) (by unfold maxLen; omega) (by omega) sz ?_
    intro v1 X17 hown hgrow
    obtain ⟨pX17, qX17, rfl⟩ := own_form hown
    rw [Nat.zero_add, List.nil_append] at hown
    have BX17 := hid (BX15.out.grown hgrow sz (fun j hj => (MX15.out.lt j hj).1))
    have OX17 := hid hown
    refine hK.out _ _ ?_ (fun hHeld => ?_)
    ·(try dsimp only); exact HEC.out _ BX17.out
    clear hK K hown hgrow sz
    (try simp only [Nat.zero_add])
    try simp only [List.getElem_toArray, List.getElem_cons_succ, List.getElem_cons_zero, Act.put, List.setIfInBounds_toArray, List.set_cons_zero, List.set_cons_succ]
    refine wpAnyH_ready (rs := [5]) (by kernel_rfl) (by simp) ?_
    refine (AllReadyH.cons (o := _) rfl (fun K hK => ?_) AllReadyH.nil)
    go_simp
    refine hK.out _ _ ?_ (fun hHeld => ?_)
    ·(try dsimp only); exact HEC.out _ (btr BX17.out (ball _ _))
    clear hK K
    try simp only [List.getElem_toArray, List.getElem_cons_succ, List.getElem_cons_zero, Act.put, List.setIfInBounds_toArray, List.set_cons_zero, List.set_cons_succ]
    obtain ⟨X18, hX18⟩ : ∃ X, X17.alloc (.cells #[.int .u64 s, .int .i64 e.kd, .int .u64 e.id, .int .u64 e.ot, .int .u64 e.tg, .int .u32 e.mb, .int .i64 e.sd, .int .i64 e.ty, .int .i64 e.pr, .int .u64 e.qt, .int .u64 e.pk, .int .i64 e.rs, .int .i64 e.cd] 58) = X := ⟨_, rfl⟩
    have bX18 : Below X17.heap.size X17 X18 := by rw [← hX18]; exact ball _ _
    have BX18 := hid (btr BX17.out bX18)
    have zX18 := World.alloc_heap_new X17 (.cells #[.int .u64 s, .int .i64 e.kd, .int .u64 e.id, .int .u64 e.ot, .int .u64 e.tg, .int .u32 e.mb, .int .i64 e.sd, .int .i64 e.ty, .int .i64 e.pr, .int .u64 e.qt, .int .u64 e.pk, .int .i64 e.rs, .int .i64 e.cd] 58)
    have yX18 := BX17.out.size
    obtain ⟨g19, hg19⟩ : ∃ g, X17.heap.size = g := ⟨_, rfl⟩
    rw [hX18, hg19] at zX18
    rw [hg19] at yX18
    rw [hX18, hg19]
    have OX18 := hid (own_on OX17.out (bX18))
    have SX18 := hid zX18
    clear hX18 hg19 zX18
    refine wpAnyH_ready (rs := [6]) (by kernel_rfl) (by simp) ?_
    refine (AllReadyH.cons (o := _) rfl (fun K hK => ?_) AllReadyH.nil)
    have sz := BX18.out.size
    refine step_app_rows (by rfl) (.tmp 18) (.tmp 20) 35 (by rfl) W2.heap.size 0 58 i0 _ 13 104 Try.underlying35 HI.out HZ0.out HZ1.out HZ2.out rfl (by decide) (.slice pX17 m qX17) m (evs es) (by rfl) OX18.out (.slice (some ⟨g19, 0, none⟩) 1 1) 1 (ecs (e.num s)) (by rfl) (HSRC.out _ _ SX18.out) (ecs_one _) (by unfold maxLen; omega) (by omega) sz ?_
    intro v2 X20 hown hgrow
    obtain ⟨pX20, qX20, rfl⟩ := own_form hown
    have BX20 := hid (BX18.out.grown hgrow sz (fun j hj => (OX18.out.lt j hj).1))
    have OX20 := hid hown
    refine hK.out _ _ ?_ (fun hHeld => ?_)
    ·(try dsimp only); exact HEC.out _ BX20.out
    clear hK K hown hgrow sz
    try simp only [List.getElem_toArray, List.getElem_cons_succ, List.getElem_cons_zero, Act.put, List.setIfInBounds_toArray, List.set_cons_zero, List.set_cons_succ]
    refine' wpAnyH_take (i := 7) (oi := _) (v := _) rfl (by kernel_rfl) (by kernel_rfl) (by kernel_rfl) (fun _ _ _ h => h) (Or.inl ⟨by kernel_rfl, ?hyq6⟩) (by assumption) ?restq6
    case hyq6 => (intro w hSw; (try dsimp only at hSw); go_simp; try (with_reducible rfl))
    try simp only [List.getElem_toArray, List.getElem_cons_succ, List.getElem_cons_zero, Act.put, List.setIfInBounds_toArray, List.set_cons_zero, List.set_cons_succ]
    refine wpAnyH_ready (rs := [8]) (by kernel_rfl) (by simp) ?_
    refine AllReadyH.cons (o := _) rfl (fun K hK => ?_) AllReadyH.nil
    obtain ⟨a0, a1, a2, a3, a4, a5, a6⟩ := row7 (row_on HA.out BX20.out)
    have f6 := row_frz (row_on HA.out BX20.out) 6
    go_simp
    refine hK.out _ _ ?_ (fun hHeld => ?_)
    ·(try dsimp only); exact HECS.out _ _ BX20.out
    clear hK K a0 a1 a2 a3 a4 a5 a6 f6
    try simp only [List.getElem_toArray, List.getElem_cons_succ, List.getElem_cons_zero, Act.put, List.setIfInBounds_toArray, List.set_cons_zero, List.set_cons_succ]
    refine wpAnyH_done (by kernel_rfl) ?_ _
    obtain ⟨W3, hW3⟩ : ∃ X, X20.setCell ⟨R, 6, none⟩ (.slice pX20 (m + 1) qX20) = X := ⟨_, rfl⟩
    have k3 : Kp (fun j => j = R) X20 W3 := by rw [← hW3]; exact Kp.set _ _ _ _
    have r3 : W3.heap[R]? = some (.cells #[.int .i64 d.cap, .int .i64 d.meet, .slice d.p1 d.o1.length d.c1, .slice d.p2 d.o2.length d.c2, .int .u64 d.high, .int .u64 s, .slice pX20 (m + 1) qX20] 74 (0, 0)) := by rw [← hW3, set_row _ (row_on HA.out BX20.out)]; rfl
    have HC3 := hid (k3.row (row_on HC.out BX20.out) (by omega))
    have hw1 := btr HBW.out BX20.out
    have HB3 := hid (show Below w.heap.size w W3 from hw1.trans (k3.below hw1.size (fun b hb e => by have := HRR.out; omega)))
    have HO3 := hid (show W3.ownsRow W2.heap.size 58 13 (.slice pX20 (m + 1) qX20) (m + 1) (evs es ++ ecs (e.num s)) from own_same OX20.out (fun g hg => k3.obj g (OX20.out.lt g hg).2 (by have h1 := (OX20.out.lt g hg).1; have h2 := row_lt HA.out; omega)))
    rw [hW3]
    clear hW3 k3 hw1
    obtain ⟨a0, a1, a2, a3, a4, a5, a6⟩ := row7 r3
    clear r3
    have AI := hid (show (Try.prog.info? 74).map (·.size) = some (#[.int .i64 d.cap, .int .i64 d.meet, .slice d.p1 d.o1.length d.c1, .slice d.p2 d.o2.length d.c2, .int .u64 d.high, .int .u64 s, .slice pX20 (m + 1) qX20] : Array Value).size from info74)
    have AS := hid (show (#[.int .i64 0, .int .i64 0, .slice none 0 0, .slice none 0 0, .int .u64 0, .int .u64 0, .slice none 0 0] : Array Value).size = (#[.int .i64 d.cap, .int .i64 d.meet, .slice d.p1 d.o1.length d.c1, .slice d.p2 d.o2.length d.c2, .int .u64 d.high, .int .u64 s, .slice pX20 (m + 1) qX20] : Array Value).size from rfl)
    have AA := hid (show (#[.int .i64 d.cap, .int .i64 d.meet, .slice d.p1 d.o1.length d.c1, .slice d.p2 d.o2.length d.c2, .int .u64 d.high, .int .u64 s, .slice pX20 (m + 1) qX20] : Array Value).all (·.oneCell') = true from by simp [Value.oneCell'])
    go_wp2_with (refine wpList_store_row (by rfl) 74 (.tmp 4) (.tmp 23) (by rfl) (R + 1 + 1) #[.int .i64 d.cap, .int .i64 d.meet, .slice d.p1 d.o1.length d.c1, .slice d.p2 d.o2.length d.c2, .int .u64 d.high, .int .u64 s, .slice pX20 (m + 1) qX20] (by rfl) (by rfl) 74 _ HC3.out AI.out AS.out AA.out ?_)
    refine bodyPost_ret (results_cell_row (fn := Try.f30) Try.results30 _ _ (R + 1 + 1) 74 #[.int .i64 d.cap, .int .i64 d.meet, .slice d.p1 d.o1.length d.c1, .slice d.p2 d.o2.length d.c2, .int .u64 d.high, .int .u64 s, .slice pX20 (m + 1) qX20] (0, 0) _ (by rfl) (setRow_heap _ _ _ _ 74 (0, 0) HC3.out) Try.underlying74 rfl info74) rfl ⟨pX20, qX20, ?_, ?_, ?_⟩
    ·rw [← HSS.out]; rfl
    ·unfold Rv; rw [List.length_append, HM.out, evs_snoc, HSS.out]; exact own_base (own_same HO3.out (fun g hg => (setRow_kp W3 (R + 1 + 1) _).obj g (HO3.out.lt g hg).2 (by have h1 := (HO3.out.lt g hg).1; have h2 := row_lt HC.out; omega))) (Nat.zero_le _)
    ·exact setRow_below HB3.out (by have := HRR.out; omega)
   ·go_simp
    refine hK.out _ _ ?_ (fun hHeld => ?_)
    ·(try dsimp only); exact HEC.out _ (btr BX15.out (ball _ _))
    clear hK K
    try simp only [List.getElem_toArray, List.getElem_cons_succ, List.getElem_cons_zero, Act.put, List.setIfInBounds_toArray, List.set_cons_zero, List.set_cons_succ]
    obtain ⟨X21, hX21⟩ : ∃ X, X15.alloc (.cells #[.int .u64 s, .int .i64 e.kd, .int .u64 e.id, .int .u64 e.ot, .int .u64 e.tg, .int .u32 e.mb, .int .i64 e.sd, .int .i64 e.ty, .int .i64 e.pr, .int .u64 e.qt, .int .u64 e.pk, .int .i64 e.rs, .int .i64 e.cd] 58) = X := ⟨_, rfl⟩
    have bX21 : Below X15.heap.size X15 X21 := by rw [← hX21]; exact ball _ _
    have BX21 := hid (btr BX15.out bX21)
    have zX21 := World.alloc_heap_new X15 (.cells #[.int .u64 s, .int .i64 e.kd, .int .u64 e.id, .int .u64 e.ot, .int .u64 e.tg, .int .u32 e.mb, .int .i64 e.sd, .int .i64 e.ty, .int .i64 e.pr, .int .u64 e.qt, .int .u64 e.pk, .int .i64 e.rs, .int .i64 e.cd] 58)
    have yX21 := BX15.out.size
    obtain ⟨g22, hg22⟩ : ∃ g, X15.heap.size = g := ⟨_, rfl⟩
    rw [hX21, hg22] at zX21
    rw [hg22] at yX21
    rw [hX21, hg22]
    have MX21 := hid (own_on MX15.out (bX21))
    have SX21 := hid zX21
    have ne : g16 ≠ g22 := by have := (MX15.out.lt g16 rfl).2; omega
    clear hX21 hg22 zX21
    refine wpAnyH_ready (rs := [3]) (by kernel_rfl) (by simp) ?_
    refine (AllReadyH.cons (o := _) rfl (fun K hK => ?_) AllReadyH.nil)
    have sz := BX21.out.size
    refine step_app_rows (by rfl) (.tmp 15) (.tmp 17) 35 (by rfl) W2.heap.size 0 58 i0 _ 13 104 Try.underlying35 HI.out HZ0.out HZ1.out HZ2.out rfl (by decide) (.slice (some ⟨g16, 0, none⟩) 0 0) 0 [] (by rfl) MX21.out (.slice p m c) m (evs es) (by rfl) (HEV.out _ BX21.out) (evs_one _) (by unfold maxLen; omega) (by omega) sz ?_
    intro v1 X23 hown hgrow
    obtain ⟨pX23, qX23, rfl⟩ := own_form hown
    rw [Nat.zero_add, List.nil_append] at hown
    have BX23 := hid (BX21.out.grown hgrow sz (fun j hj => (MX21.out.lt j hj).1))
    have OX23 := hid hown
    have SX23 := hid ((hgrow.block g22 (row_lt SX21.out) (by intro e; injection e with e; exact ne e.symm)).trans SX21.out)
    refine hK.out _ _ ?_ (fun hHeld => ?_)
    ·(try dsimp only); exact HEC.out _ BX23.out
    clear hK K hown hgrow sz
    (try simp only [Nat.zero_add])
    try simp only [List.getElem_toArray, List.getElem_cons_succ, List.getElem_cons_zero, Act.put, List.setIfInBounds_toArray, List.set_cons_zero, List.set_cons_succ]
    refine wpAnyH_ready (rs := [6]) (by kernel_rfl) (by simp) ?_
    refine (AllReadyH.cons (o := _) rfl (fun K hK => ?_) AllReadyH.nil)
    have sz := BX23.out.size
    refine step_app_rows (by rfl) (.tmp 18) (.tmp 20) 35 (by rfl) W2.heap.size 0 58 i0 _ 13 104 Try.underlying35 HI.out HZ0.out HZ1.out HZ2.out rfl (by decide) (.slice pX23 m qX23) m (evs es) (by rfl) OX23.out (.slice (some ⟨g22, 0, none⟩) 1 1) 1 (ecs (e.num s)) (by rfl) (HSRC.out _ _ SX23.out) (ecs_one _) (by unfold maxLen; omega) (by omega) sz ?_
    intro v2 X24 hown hgrow
    obtain ⟨pX24, qX24, rfl⟩ := own_form hown
    have BX24 := hid (BX23.out.grown hgrow sz (fun j hj => (OX23.out.lt j hj).1))
    have OX24 := hid hown
    refine hK.out _ _ ?_ (fun hHeld => ?_)
    ·(try dsimp only); exact HEC.out _ BX24.out
    clear hK K hown hgrow sz
    try simp only [List.getElem_toArray, List.getElem_cons_succ, List.getElem_cons_zero, Act.put, List.setIfInBounds_toArray, List.set_cons_zero, List.set_cons_succ]
    refine' wpAnyH_take (i := 7) (oi := _) (v := _) rfl (by kernel_rfl) (by kernel_rfl) (by kernel_rfl) (fun _ _ _ h => h) (Or.inl ⟨by kernel_rfl, ?hyq7⟩) (by assumption) ?restq7
    case hyq7 => (intro w hSw; (try dsimp only at hSw); go_simp; try (with_reducible rfl))
    try simp only [List.getElem_toArray, List.getElem_cons_succ, List.getElem_cons_zero, Act.put, List.setIfInBounds_toArray, List.set_cons_zero, List.set_cons_succ]
    refine wpAnyH_ready (rs := [8]) (by kernel_rfl) (by simp) ?_
    refine AllReadyH.cons (o := _) rfl (fun K hK => ?_) AllReadyH.nil
    obtain ⟨a0, a1, a2, a3, a4, a5, a6⟩ := row7 (row_on HA.out BX24.out)
    have f6 := row_frz (row_on HA.out BX24.out) 6
    go_simp
    refine hK.out _ _ ?_ (fun hHeld => ?_)
    ·(try dsimp only); exact HECS.out _ _ BX24.out
    clear hK K a0 a1 a2 a3 a4 a5 a6 f6
    try simp only [List.getElem_toArray, List.getElem_cons_succ, List.getElem_cons_zero, Act.put, List.setIfInBounds_toArray, List.set_cons_zero, List.set_cons_succ]
    refine wpAnyH_done (by kernel_rfl) ?_ _
    obtain ⟨W3, hW3⟩ : ∃ X, X24.setCell ⟨R, 6, none⟩ (.slice pX24 (m + 1) qX24) = X := ⟨_, rfl⟩
    have k3 : Kp (fun j => j = R) X24 W3 := by rw [← hW3]; exact Kp.set _ _ _ _
    have r3 : W3.heap[R]? = some (.cells #[.int .i64 d.cap, .int .i64 d.meet, .slice d.p1 d.o1.length d.c1, .slice d.p2 d.o2.length d.c2, .int .u64 d.high, .int .u64 s, .slice pX24 (m + 1) qX24] 74 (0, 0)) := by rw [← hW3, set_row _ (row_on HA.out BX24.out)]; rfl
    have HC3 := hid (k3.row (row_on HC.out BX24.out) (by omega))
    have hw1 := btr HBW.out BX24.out
    have HB3 := hid (show Below w.heap.size w W3 from hw1.trans (k3.below hw1.size (fun b hb e => by have := HRR.out; omega)))
    have HO3 := hid (show W3.ownsRow W2.heap.size 58 13 (.slice pX24 (m + 1) qX24) (m + 1) (evs es ++ ecs (e.num s)) from own_same OX24.out (fun g hg => k3.obj g (OX24.out.lt g hg).2 (by have h1 := (OX24.out.lt g hg).1; have h2 := row_lt HA.out; omega)))
    rw [hW3]
    clear hW3 k3 hw1
    obtain ⟨a0, a1, a2, a3, a4, a5, a6⟩ := row7 r3
    clear r3
    have AI := hid (show (Try.prog.info? 74).map (·.size) = some (#[.int .i64 d.cap, .int .i64 d.meet, .slice d.p1 d.o1.length d.c1, .slice d.p2 d.o2.length d.c2, .int .u64 d.high, .int .u64 s, .slice pX24 (m + 1) qX24] : Array Value).size from info74)
    have AS := hid (show (#[.int .i64 0, .int .i64 0, .slice none 0 0, .slice none 0 0, .int .u64 0, .int .u64 0, .slice none 0 0] : Array Value).size = (#[.int .i64 d.cap, .int .i64 d.meet, .slice d.p1 d.o1.length d.c1, .slice d.p2 d.o2.length d.c2, .int .u64 d.high, .int .u64 s, .slice pX24 (m + 1) qX24] : Array Value).size from rfl)
    have AA := hid (show (#[.int .i64 d.cap, .int .i64 d.meet, .slice d.p1 d.o1.length d.c1, .slice d.p2 d.o2.length d.c2, .int .u64 d.high, .int .u64 s, .slice pX24 (m + 1) qX24] : Array Value).all (·.oneCell') = true from by simp [Value.oneCell'])
    go_wp2_with (refine wpList_store_row (by rfl) 74 (.tmp 4) (.tmp 23) (by rfl) (R + 1 + 1) #[.int .i64 d.cap, .int .i64 d.meet, .slice d.p1 d.o1.length d.c1, .slice d.p2 d.o2.length d.c2, .int .u64 d.high, .int .u64 s, .slice pX24 (m + 1) qX24] (by rfl) (by rfl) 74 _ HC3.out AI.out AS.out AA.out ?_)
    refine bodyPost_ret (results_cell_row (fn := Try.f30) Try.results30 _ _ (R + 1 + 1) 74 #[.int .i64 d.cap, .int .i64 d.meet, .slice d.p1 d.o1.length d.c1, .slice d.p2 d.o2.length d.c2, .int .u64 d.high, .int .u64 s, .slice pX24 (m + 1) qX24] (0, 0) _ (by rfl) (setRow_heap _ _ _ _ 74 (0, 0) HC3.out) Try.underlying74 rfl info74) rfl ⟨pX24, qX24, ?_, ?_, ?_⟩
    ·rw [← HSS.out]; rfl
    ·unfold Rv; rw [List.length_append, HM.out, evs_snoc, HSS.out]; exact own_base (own_same HO3.out (fun g hg => (setRow_kp W3 (R + 1 + 1) _).obj g (HO3.out.lt g hg).2 (by have h1 := (HO3.out.lt g hg).1; have h2 := row_lt HC.out; omega))) (Nat.zero_le _)
    ·exact setRow_below HB3.out (by have := HRR.out; omega)
  ·go_simp
   refine hK.out _ _ ?_ (fun hHeld => ?_)
   ·(try dsimp only); exact HEC.out _ (btr B0.out (ball _ _))
   clear hK K
   try simp only [List.getElem_toArray, List.getElem_cons_succ, List.getElem_cons_zero, Act.put, List.setIfInBounds_toArray, List.set_cons_zero, List.set_cons_succ]
   obtain ⟨X25, hX25⟩ : ∃ X, V0.alloc (.cells #[.int .u64 s, .int .i64 e.kd, .int .u64 e.id, .int .u64 e.ot, .int .u64 e.tg, .int .u32 e.mb, .int .i64 e.sd, .int .i64 e.ty, .int .i64 e.pr, .int .u64 e.qt, .int .u64 e.pk, .int .i64 e.rs, .int .i64 e.cd] 58) = X := ⟨_, rfl⟩
   have bX25 : Below V0.heap.size V0 X25 := by rw [← hX25]; exact ball _ _
   have BX25 := hid (btr B0.out bX25)
   have zX25 := World.alloc_heap_new V0 (.cells #[.int .u64 s, .int .i64 e.kd, .int .u64 e.id, .int .u64 e.ot, .int .u64 e.tg, .int .u32 e.mb, .int .i64 e.sd, .int .i64 e.ty, .int .i64 e.pr, .int .u64 e.qt, .int .u64 e.pk, .int .i64 e.rs, .int .i64 e.cd] 58)
   have yX25 := B0.out.size
   obtain ⟨g26, hg26⟩ : ∃ g, V0.heap.size = g := ⟨_, rfl⟩
   rw [hX25, hg26] at zX25
   rw [hg26] at yX25
   rw [hX25, hg26]
   have SX25 := hid zX25
   clear hX25 hg26 zX25
   refine wpAnyH_ready (rs := [0]) (by kernel_rfl) (by simp) ?_
   refine (AllReadyH.cons (o := _) rfl (fun K hK => ?_) AllReadyH.nil)
   go_simp
   refine hK.out _ _ ?_ (fun hHeld => ?_)
   ·(try dsimp only); exact HEC.out _ (btr BX25.out (ball _ _))
   clear hK K
   try simp only [List.getElem_toArray, List.getElem_cons_succ, List.getElem_cons_zero, Act.put, List.setIfInBounds_toArray, List.set_cons_zero, List.set_cons_succ]
   obtain ⟨X27, hX27⟩ : ∃ X, X25.alloc (.cells #[] 58) = X := ⟨_, rfl⟩
   have bX27 : Below X25.heap.size X25 X27 := by rw [← hX27]; exact ball _ _
   have BX27 := hid (btr BX25.out bX27)
   have zX27 := World.alloc_heap_new X25 (.cells #[] 58)
   have yX27 := BX25.out.size
   obtain ⟨g28, hg28⟩ : ∃ g, X25.heap.size = g := ⟨_, rfl⟩
   rw [hX27, hg28] at zX27
   rw [hg28] at yX27
   rw [hX27, hg28]
   have SX27 := hid (row_on SX25.out (bX27))
   have MX27 := hid (HMK.out X27 g28 zX27 yX27)
   have ne : g28 ≠ g26 := by have := row_lt SX25.out; omega
   clear hX27 hg28 zX27
   refine wpAnyH_ready (rs := [3]) (by kernel_rfl) (by simp) ?_
   refine (AllReadyH.cons (o := _) rfl (fun K hK => ?_) AllReadyH.nil)
   have sz := BX27.out.size
   refine step_app_rows (by rfl) (.tmp 15) (.tmp 17) 35 (by rfl) W2.heap.size 0 58 i0 _ 13 104 Try.underlying35 HI.out HZ0.out HZ1.out HZ2.out rfl (by decide) (.slice (some ⟨g28, 0, none⟩) 0 0) 0 [] (by rfl) MX27.out (.slice p m c) m (evs es) (by rfl) (HEV.out _ BX27.out) (evs_one _) (by unfold maxLen; omega) (by omega) sz ?_
   intro v1 X29 hown hgrow
   obtain ⟨pX29, qX29, rfl⟩ := own_form hown
   rw [Nat.zero_add, List.nil_append] at hown
   have BX29 := hid (BX27.out.grown hgrow sz (fun j hj => (MX27.out.lt j hj).1))
   have OX29 := hid hown
   have SX29 := hid ((hgrow.block g26 (row_lt SX27.out) (by intro e; injection e with e; exact ne e.symm)).trans SX27.out)
   refine hK.out _ _ ?_ (fun hHeld => ?_)
   ·(try dsimp only); exact HEC.out _ BX29.out
   clear hK K hown hgrow sz
   (try simp only [Nat.zero_add])
   try simp only [List.getElem_toArray, List.getElem_cons_succ, List.getElem_cons_zero, Act.put, List.setIfInBounds_toArray, List.set_cons_zero, List.set_cons_succ]
   refine wpAnyH_ready (rs := [6]) (by kernel_rfl) (by simp) ?_
   refine (AllReadyH.cons (o := _) rfl (fun K hK => ?_) AllReadyH.nil)
   have sz := BX29.out.size
   refine step_app_rows (by rfl) (.tmp 18) (.tmp 20) 35 (by rfl) W2.heap.size 0 58 i0 _ 13 104 Try.underlying35 HI.out HZ0.out HZ1.out HZ2.out rfl (by decide) (.slice pX29 m qX29) m (evs es) (by rfl) OX29.out (.slice (some ⟨g26, 0, none⟩) 1 1) 1 (ecs (e.num s)) (by rfl) (HSRC.out _ _ SX29.out) (ecs_one _) (by unfold maxLen; omega) (by omega) sz ?_
   intro v2 X30 hown hgrow
   obtain ⟨pX30, qX30, rfl⟩ := own_form hown
   have BX30 := hid (BX29.out.grown hgrow sz (fun j hj => (OX29.out.lt j hj).1))
   have OX30 := hid hown
   refine hK.out _ _ ?_ (fun hHeld => ?_)
   ·(try dsimp only); exact HEC.out _ BX30.out
   clear hK K hown hgrow sz
   try simp only [List.getElem_toArray, List.getElem_cons_succ, List.getElem_cons_zero, Act.put, List.setIfInBounds_toArray, List.set_cons_zero, List.set_cons_succ]
   refine' wpAnyH_take (i := 7) (oi := _) (v := _) rfl (by kernel_rfl) (by kernel_rfl) (by kernel_rfl) (fun _ _ _ h => h) (Or.inl ⟨by kernel_rfl, ?hyq8⟩) (by assumption) ?restq8
   case hyq8 => (intro w hSw; (try dsimp only at hSw); go_simp; try (with_reducible rfl))
   try simp only [List.getElem_toArray, List.getElem_cons_succ, List.getElem_cons_zero, Act.put, List.setIfInBounds_toArray, List.set_cons_zero, List.set_cons_succ]
   refine wpAnyH_ready (rs := [8]) (by kernel_rfl) (by simp) ?_
   refine AllReadyH.cons (o := _) rfl (fun K hK => ?_) AllReadyH.nil
   obtain ⟨a0, a1, a2, a3, a4, a5, a6⟩ := row7 (row_on HA.out BX30.out)
   have f6 := row_frz (row_on HA.out BX30.out) 6
   go_simp
   refine hK.out _ _ ?_ (fun hHeld => ?_)
   ·(try dsimp only); exact HECS.out _ _ BX30.out
   clear hK K a0 a1 a2 a3 a4 a5 a6 f6
   try simp only [List.getElem_toArray, List.getElem_cons_succ, List.getElem_cons_zero, Act.put, List.setIfInBounds_toArray, List.set_cons_zero, List.set_cons_succ]
   refine wpAnyH_done (by kernel_rfl) ?_ _
   obtain ⟨W3, hW3⟩ : ∃ X, X30.setCell ⟨R, 6, none⟩ (.slice pX30 (m + 1) qX30) = X := ⟨_, rfl⟩
   have k3 : Kp (fun j => j = R) X30 W3 := by rw [← hW3]; exact Kp.set _ _ _ _
   have r3 : W3.heap[R]? = some (.cells #[.int .i64 d.cap, .int .i64 d.meet, .slice d.p1 d.o1.length d.c1, .slice d.p2 d.o2.length d.c2, .int .u64 d.high, .int .u64 s, .slice pX30 (m + 1) qX30] 74 (0, 0)) := by rw [← hW3, set_row _ (row_on HA.out BX30.out)]; rfl
   have HC3 := hid (k3.row (row_on HC.out BX30.out) (by omega))
   have hw1 := btr HBW.out BX30.out
   have HB3 := hid (show Below w.heap.size w W3 from hw1.trans (k3.below hw1.size (fun b hb e => by have := HRR.out; omega)))
   have HO3 := hid (show W3.ownsRow W2.heap.size 58 13 (.slice pX30 (m + 1) qX30) (m + 1) (evs es ++ ecs (e.num s)) from own_same OX30.out (fun g hg => k3.obj g (OX30.out.lt g hg).2 (by have h1 := (OX30.out.lt g hg).1; have h2 := row_lt HA.out; omega)))
   rw [hW3]
   clear hW3 k3 hw1
   obtain ⟨a0, a1, a2, a3, a4, a5, a6⟩ := row7 r3
   clear r3
   have AI := hid (show (Try.prog.info? 74).map (·.size) = some (#[.int .i64 d.cap, .int .i64 d.meet, .slice d.p1 d.o1.length d.c1, .slice d.p2 d.o2.length d.c2, .int .u64 d.high, .int .u64 s, .slice pX30 (m + 1) qX30] : Array Value).size from info74)
   have AS := hid (show (#[.int .i64 0, .int .i64 0, .slice none 0 0, .slice none 0 0, .int .u64 0, .int .u64 0, .slice none 0 0] : Array Value).size = (#[.int .i64 d.cap, .int .i64 d.meet, .slice d.p1 d.o1.length d.c1, .slice d.p2 d.o2.length d.c2, .int .u64 d.high, .int .u64 s, .slice pX30 (m + 1) qX30] : Array Value).size from rfl)
   have AA := hid (show (#[.int .i64 d.cap, .int .i64 d.meet, .slice d.p1 d.o1.length d.c1, .slice d.p2 d.o2.length d.c2, .int .u64 d.high, .int .u64 s, .slice pX30 (m + 1) qX30] : Array Value).all (·.oneCell') = true from by simp [Value.oneCell'])
   go_wp2_with (refine wpList_store_row (by rfl) 74 (.tmp 4) (.tmp 23) (by rfl) (R + 1 + 1) #[.int .i64 d.cap, .int .i64 d.meet, .slice d.p1 d.o1.length d.c1, .slice d.p2 d.o2.length d.c2, .int .u64 d.high, .int .u64 s, .slice pX30 (m + 1) qX30] (by rfl) (by rfl) 74 _ HC3.out AI.out AS.out AA.out ?_)
   refine bodyPost_ret (results_cell_row (fn := Try.f30) Try.results30 _ _ (R + 1 + 1) 74 #[.int .i64 d.cap, .int .i64 d.meet, .slice d.p1 d.o1.length d.c1, .slice d.p2 d.o2.length d.c2, .int .u64 d.high, .int .u64 s, .slice pX30 (m + 1) qX30] (0, 0) _ (by rfl) (setRow_heap _ _ _ _ 74 (0, 0) HC3.out) Try.underlying74 rfl info74) rfl ⟨pX30, qX30, ?_, ?_, ?_⟩
   ·rw [← HSS.out]; rfl
   ·unfold Rv; rw [List.length_append, HM.out, evs_snoc, HSS.out]; exact own_base (own_same HO3.out (fun g hg => (setRow_kp W3 (R + 1 + 1) _).obj g (HO3.out.lt g hg).2 (by have h1 := (HO3.out.lt g hg).1; have h2 := row_lt HC.out; omega))) (Nat.zero_le _)
   ·exact setRow_below HB3.out (by have := HRR.out; omega)
 ·go_simp
  refine hK.out _ _ ?_ (fun hHeld => ?_)
  ·(try dsimp only); exact HEC.out _ (btr B0.out (ball _ _))
  clear hK K
  try simp only [List.getElem_toArray, List.getElem_cons_succ, List.getElem_cons_zero, Act.put, List.setIfInBounds_toArray, List.set_cons_zero, List.set_cons_succ]
  obtain ⟨X31, hX31⟩ : ∃ X, V0.alloc (.cells #[.int .u64 s, .int .i64 e.kd, .int .u64 e.id, .int .u64 e.ot, .int .u64 e.tg, .int .u32 e.mb, .int .i64 e.sd, .int .i64 e.ty, .int .i64 e.pr, .int .u64 e.qt, .int .u64 e.pk, .int .i64 e.rs, .int .i64 e.cd] 58) = X := ⟨_, rfl⟩
  have bX31 : Below V0.heap.size V0 X31 := by rw [← hX31]; exact ball _ _
  have BX31 := hid (btr B0.out bX31)
  have zX31 := World.alloc_heap_new V0 (.cells #[.int .u64 s, .int .i64 e.kd, .int .u64 e.id, .int .u64 e.ot, .int .u64 e.tg, .int .u32 e.mb, .int .i64 e.sd, .int .i64 e.ty, .int .i64 e.pr, .int .u64 e.qt, .int .u64 e.pk, .int .i64 e.rs, .int .i64 e.cd] 58)
  have yX31 := B0.out.size
  obtain ⟨g32, hg32⟩ : ∃ g, V0.heap.size = g := ⟨_, rfl⟩
  rw [hX31, hg32] at zX31
  rw [hg32] at yX31
  rw [hX31, hg32]
  have SX31 := hid zX31
  clear hX31 hg32 zX31
  refine wpAnyH_ready (rs := [0, 2]) (by kernel_rfl) (by simp) ?_
  refine (AllReadyH.cons (o := _) rfl (fun K hK => ?_) (AllReadyH.cons (o := _) rfl (fun K hK => ?_) AllReadyH.nil))
  ·go_simp
   refine hK.out _ _ ?_ (fun hHeld => ?_)
   ·(try dsimp only); exact HEC.out _ (btr BX31.out (ball _ _))
   clear hK K
   try simp only [List.getElem_toArray, List.getElem_cons_succ, List.getElem_cons_zero, Act.put, List.setIfInBounds_toArray, List.set_cons_zero, List.set_cons_succ]
   obtain ⟨X33, hX33⟩ : ∃ X, X31.alloc (.cells #[] 58) = X := ⟨_, rfl⟩
   have bX33 : Below X31.heap.size X31 X33 := by rw [← hX33]; exact ball _ _
   have BX33 := hid (btr BX31.out bX33)
   have zX33 := World.alloc_heap_new X31 (.cells #[] 58)
   have yX33 := BX31.out.size
   obtain ⟨g34, hg34⟩ : ∃ g, X31.heap.size = g := ⟨_, rfl⟩
   rw [hX33, hg34] at zX33
   rw [hg34] at yX33
   rw [hX33, hg34]
   have SX33 := hid (row_on SX31.out (bX33))
   have MX33 := hid (HMK.out X33 g34 zX33 yX33)
   have ne : g34 ≠ g32 := by have := row_lt SX31.out; omega
   clear hX33 hg34 zX33
   refine wpAnyH_ready (rs := [2]) (by kernel_rfl) (by simp) ?_
   refine (AllReadyH.cons (o := _) rfl (fun K hK => ?_) AllReadyH.nil)
   obtain ⟨a0, a1, a2, a3, a4, a5, a6⟩ := row7 (row_on HA.out BX33.out)
   go_simp
   refine hK.out _ _ ?_ (fun hHeld => ?_)
   ·(try dsimp only); exact HEC.out _ BX33.out
   clear hK K a0 a1 a2 a3 a4 a5 a6
   try simp only [List.getElem_toArray, List.getElem_cons_succ, List.getElem_cons_zero, Act.put, List.setIfInBounds_toArray, List.set_cons_zero, List.set_cons_succ]
   refine wpAnyH_ready (rs := [3]) (by kernel_rfl) (by simp) ?_
   refine (AllReadyH.cons (o := _) rfl (fun K hK => ?_) AllReadyH.nil)
   have sz := BX33.out.size
   refine step_app_rows (by rfl) (.tmp 15) (.tmp 17) 35 (by rfl) W2.heap.size 0 58 i0 _ 13 104 Try.underlying35 HI.out HZ0.out HZ1.out HZ2.out rfl (by decide) (.slice (some ⟨g34, 0, none⟩) 0 0) 0 [] (by rfl) MX33.out (.slice p m c) m (evs es) (by rfl) (HEV.out _ BX33.out) (evs_one _) (by unfold maxLen; omega) (by omega) sz ?_
   intro v1 X35 hown hgrow
   obtain ⟨pX35, qX35, rfl⟩ := own_form hown
   rw [Nat.zero_add, List.nil_append] at hown
   have BX35 := hid (BX33.out.grown hgrow sz (fun j hj => (MX33.out.lt j hj).1))
   have OX35 := hid hown
   have SX35 := hid ((hgrow.block g32 (row_lt SX33.out) (by intro e; injection e with e; exact ne e.symm)).trans SX33.out)
   refine hK.out _ _ ?_ (fun hHeld => ?_)
   ·(try dsimp only); exact HEC.out _ BX35.out
   clear hK K hown hgrow sz
   (try simp only [Nat.zero_add])
   try simp only [List.getElem_toArray, List.getElem_cons_succ, List.getElem_cons_zero, Act.put, List.setIfInBounds_toArray, List.set_cons_zero, List.set_cons_succ]
   refine wpAnyH_ready (rs := [6]) (by kernel_rfl) (by simp) ?_
   refine (AllReadyH.cons (o := _) rfl (fun K hK => ?_) AllReadyH.nil)
   have sz := BX35.out.size
   refine step_app_rows (by rfl) (.tmp 18) (.tmp 20) 35 (by rfl) W2.heap.size 0 58 i0 _ 13 104 Try.underlying35 HI.out HZ0.out HZ1.out HZ2.out rfl (by decide) (.slice pX35 m qX35) m (evs es) (by rfl) OX35.out (.slice (some ⟨g32, 0, none⟩) 1 1) 1 (ecs (e.num s)) (by rfl) (HSRC.out _ _ SX35.out) (ecs_one _) (by unfold maxLen; omega) (by omega) sz ?_
   intro v2 X36 hown hgrow
   obtain ⟨pX36, qX36, rfl⟩ := own_form hown
   have BX36 := hid (BX35.out.grown hgrow sz (fun j hj => (OX35.out.lt j hj).1))
   have OX36 := hid hown
   refine hK.out _ _ ?_ (fun hHeld => ?_)
   ·(try dsimp only); exact HEC.out _ BX36.out
   clear hK K hown hgrow sz
   try simp only [List.getElem_toArray, List.getElem_cons_succ, List.getElem_cons_zero, Act.put, List.setIfInBounds_toArray, List.set_cons_zero, List.set_cons_succ]
   refine' wpAnyH_take (i := 7) (oi := _) (v := _) rfl (by kernel_rfl) (by kernel_rfl) (by kernel_rfl) (fun _ _ _ h => h) (Or.inl ⟨by kernel_rfl, ?hyq9⟩) (by assumption) ?restq9
   case hyq9 => (intro w hSw; (try dsimp only at hSw); go_simp; try (with_reducible rfl))
   try simp only [List.getElem_toArray, List.getElem_cons_succ, List.getElem_cons_zero, Act.put, List.setIfInBounds_toArray, List.set_cons_zero, List.set_cons_succ]
   refine wpAnyH_ready (rs := [8]) (by kernel_rfl) (by simp) ?_
   refine AllReadyH.cons (o := _) rfl (fun K hK => ?_) AllReadyH.nil
   obtain ⟨a0, a1, a2, a3, a4, a5, a6⟩ := row7 (row_on HA.out BX36.out)
   have f6 := row_frz (row_on HA.out BX36.out) 6
   go_simp
   refine hK.out _ _ ?_ (fun hHeld => ?_)
   ·(try dsimp only); exact HECS.out _ _ BX36.out
   clear hK K a0 a1 a2 a3 a4 a5 a6 f6
   try simp only [List.getElem_toArray, List.getElem_cons_succ, List.getElem_cons_zero, Act.put, List.setIfInBounds_toArray, List.set_cons_zero, List.set_cons_succ]
   refine wpAnyH_done (by kernel_rfl) ?_ _
   obtain ⟨W3, hW3⟩ : ∃ X, X36.setCell ⟨R, 6, none⟩ (.slice pX36 (m + 1) qX36) = X := ⟨_, rfl⟩
   have k3 : Kp (fun j => j = R) X36 W3 := by rw [← hW3]; exact Kp.set _ _ _ _
   have r3 : W3.heap[R]? = some (.cells #[.int .i64 d.cap, .int .i64 d.meet, .slice d.p1 d.o1.length d.c1, .slice d.p2 d.o2.length d.c2, .int .u64 d.high, .int .u64 s, .slice pX36 (m + 1) qX36] 74 (0, 0)) := by rw [← hW3, set_row _ (row_on HA.out BX36.out)]; rfl
   have HC3 := hid (k3.row (row_on HC.out BX36.out) (by omega))
   have hw1 := btr HBW.out BX36.out
   have HB3 := hid (show Below w.heap.size w W3 from hw1.trans (k3.below hw1.size (fun b hb e => by have := HRR.out; omega)))
   have HO3 := hid (show W3.ownsRow W2.heap.size 58 13 (.slice pX36 (m + 1) qX36) (m + 1) (evs es ++ ecs (e.num s)) from own_same OX36.out (fun g hg => k3.obj g (OX36.out.lt g hg).2 (by have h1 := (OX36.out.lt g hg).1; have h2 := row_lt HA.out; omega)))
   rw [hW3]
   clear hW3 k3 hw1
   obtain ⟨a0, a1, a2, a3, a4, a5, a6⟩ := row7 r3
   clear r3
   have AI := hid (show (Try.prog.info? 74).map (·.size) = some (#[.int .i64 d.cap, .int .i64 d.meet, .slice d.p1 d.o1.length d.c1, .slice d.p2 d.o2.length d.c2, .int .u64 d.high, .int .u64 s, .slice pX36 (m + 1) qX36] : Array Value).size from info74)
   have AS := hid (show (#[.int .i64 0, .int .i64 0, .slice none 0 0, .slice none 0 0, .int .u64 0, .int .u64 0, .slice none 0 0] : Array Value).size = (#[.int .i64 d.cap, .int .i64 d.meet, .slice d.p1 d.o1.length d.c1, .slice d.p2 d.o2.length d.c2, .int .u64 d.high, .int .u64 s, .slice pX36 (m + 1) qX36] : Array Value).size from rfl)
   have AA := hid (show (#[.int .i64 d.cap, .int .i64 d.meet, .slice d.p1 d.o1.length d.c1, .slice d.p2 d.o2.length d.c2, .int .u64 d.high, .int .u64 s, .slice pX36 (m + 1) qX36] : Array Value).all (·.oneCell') = true from by simp [Value.oneCell'])
   go_wp2_with (refine wpList_store_row (by rfl) 74 (.tmp 4) (.tmp 23) (by rfl) (R + 1 + 1) #[.int .i64 d.cap, .int .i64 d.meet, .slice d.p1 d.o1.length d.c1, .slice d.p2 d.o2.length d.c2, .int .u64 d.high, .int .u64 s, .slice pX36 (m + 1) qX36] (by rfl) (by rfl) 74 _ HC3.out AI.out AS.out AA.out ?_)
   refine bodyPost_ret (results_cell_row (fn := Try.f30) Try.results30 _ _ (R + 1 + 1) 74 #[.int .i64 d.cap, .int .i64 d.meet, .slice d.p1 d.o1.length d.c1, .slice d.p2 d.o2.length d.c2, .int .u64 d.high, .int .u64 s, .slice pX36 (m + 1) qX36] (0, 0) _ (by rfl) (setRow_heap _ _ _ _ 74 (0, 0) HC3.out) Try.underlying74 rfl info74) rfl ⟨pX36, qX36, ?_, ?_, ?_⟩
   ·rw [← HSS.out]; rfl
   ·unfold Rv; rw [List.length_append, HM.out, evs_snoc, HSS.out]; exact own_base (own_same HO3.out (fun g hg => (setRow_kp W3 (R + 1 + 1) _).obj g (HO3.out.lt g hg).2 (by have h1 := (HO3.out.lt g hg).1; have h2 := row_lt HC.out; omega))) (Nat.zero_le _)
   ·exact setRow_below HB3.out (by have := HRR.out; omega)
  ·obtain ⟨a0, a1, a2, a3, a4, a5, a6⟩ := row7 (row_on HA.out BX31.out)
   go_simp
   refine hK.out _ _ ?_ (fun hHeld => ?_)
   ·(try dsimp only); exact HEC.out _ BX31.out
   clear hK K a0 a1 a2 a3 a4 a5 a6
   try simp only [List.getElem_toArray, List.getElem_cons_succ, List.getElem_cons_zero, Act.put, List.setIfInBounds_toArray, List.set_cons_zero, List.set_cons_succ]
   refine wpAnyH_ready (rs := [0]) (by kernel_rfl) (by simp) ?_
   refine (AllReadyH.cons (o := _) rfl (fun K hK => ?_) AllReadyH.nil)
   go_simp
   refine hK.out _ _ ?_ (fun hHeld => ?_)
   ·(try dsimp only); exact HEC.out _ (btr BX31.out (ball _ _))
   clear hK K
   try simp only [List.getElem_toArray, List.getElem_cons_succ, List.getElem_cons_zero, Act.put, List.setIfInBounds_toArray, List.set_cons_zero, List.set_cons_succ]
   obtain ⟨X37, hX37⟩ : ∃ X, X31.alloc (.cells #[] 58) = X := ⟨_, rfl⟩
   have bX37 : Below X31.heap.size X31 X37 := by rw [← hX37]; exact ball _ _
   have BX37 := hid (btr BX31.out bX37)
   have zX37 := World.alloc_heap_new X31 (.cells #[] 58)
   have yX37 := BX31.out.size
   obtain ⟨g38, hg38⟩ : ∃ g, X31.heap.size = g := ⟨_, rfl⟩
   rw [hX37, hg38] at zX37
   rw [hg38] at yX37
   rw [hX37, hg38]
   have SX37 := hid (row_on SX31.out (bX37))
   have MX37 := hid (HMK.out X37 g38 zX37 yX37)
   have ne : g38 ≠ g32 := by have := row_lt SX31.out; omega
   clear hX37 hg38 zX37
   refine wpAnyH_ready (rs := [3]) (by kernel_rfl) (by simp) ?_
   refine (AllReadyH.cons (o := _) rfl (fun K hK => ?_) AllReadyH.nil)
   have sz := BX37.out.size
   refine step_app_rows (by rfl) (.tmp 15) (.tmp 17) 35 (by rfl) W2.heap.size 0 58 i0 _ 13 104 Try.underlying35 HI.out HZ0.out HZ1.out HZ2.out rfl (by decide) (.slice (some ⟨g38, 0, none⟩) 0 0) 0 [] (by rfl) MX37.out (.slice p m c) m (evs es) (by rfl) (HEV.out _ BX37.out) (evs_one _) (by unfold maxLen; omega) (by omega) sz ?_
   intro v1 X39 hown hgrow
   obtain ⟨pX39, qX39, rfl⟩ := own_form hown
   rw [Nat.zero_add, List.nil_append] at hown
   have BX39 := hid (BX37.out.grown hgrow sz (fun j hj => (MX37.out.lt j hj).1))
   have OX39 := hid hown
   have SX39 := hid ((hgrow.block g32 (row_lt SX37.out) (by intro e; injection e with e; exact ne e.symm)).trans SX37.out)
   refine hK.out _ _ ?_ (fun hHeld => ?_)
   ·(try dsimp only); exact HEC.out _ BX39.out
   clear hK K hown hgrow sz
   (try simp only [Nat.zero_add])
   try simp only [List.getElem_toArray, List.getElem_cons_succ, List.getElem_cons_zero, Act.put, List.setIfInBounds_toArray, List.set_cons_zero, List.set_cons_succ]
   refine wpAnyH_ready (rs := [6]) (by kernel_rfl) (by simp) ?_
   refine (AllReadyH.cons (o := _) rfl (fun K hK => ?_) AllReadyH.nil)
   have sz := BX39.out.size
   refine step_app_rows (by rfl) (.tmp 18) (.tmp 20) 35 (by rfl) W2.heap.size 0 58 i0 _ 13 104 Try.underlying35 HI.out HZ0.out HZ1.out HZ2.out rfl (by decide) (.slice pX39 m qX39) m (evs es) (by rfl) OX39.out (.slice (some ⟨g32, 0, none⟩) 1 1) 1 (ecs (e.num s)) (by rfl) (HSRC.out _ _ SX39.out) (ecs_one _) (by unfold maxLen; omega) (by omega) sz ?_
   intro v2 X40 hown hgrow
   obtain ⟨pX40, qX40, rfl⟩ := own_form hown
   have BX40 := hid (BX39.out.grown hgrow sz (fun j hj => (OX39.out.lt j hj).1))
   have OX40 := hid hown
   refine hK.out _ _ ?_ (fun hHeld => ?_)
   ·(try dsimp only); exact HEC.out _ BX40.out
   clear hK K hown hgrow sz
   try simp only [List.getElem_toArray, List.getElem_cons_succ, List.getElem_cons_zero, Act.put, List.setIfInBounds_toArray, List.set_cons_zero, List.set_cons_succ]
   refine' wpAnyH_take (i := 7) (oi := _) (v := _) rfl (by kernel_rfl) (by kernel_rfl) (by kernel_rfl) (fun _ _ _ h => h) (Or.inl ⟨by kernel_rfl, ?hyq10⟩) (by assumption) ?restq10
   case hyq10 => (intro w hSw; (try dsimp only at hSw); go_simp; try (with_reducible rfl))
   try simp only [List.getElem_toArray, List.getElem_cons_succ, List.getElem_cons_zero, Act.put, List.setIfInBounds_toArray, List.set_cons_zero, List.set_cons_succ]
   refine wpAnyH_ready (rs := [8]) (by kernel_rfl) (by simp) ?_
   refine AllReadyH.cons (o := _) rfl (fun K hK => ?_) AllReadyH.nil
   obtain ⟨a0, a1, a2, a3, a4, a5, a6⟩ := row7 (row_on HA.out BX40.out)
   have f6 := row_frz (row_on HA.out BX40.out) 6
   go_simp
   refine hK.out _ _ ?_ (fun hHeld => ?_)
   ·(try dsimp only); exact HECS.out _ _ BX40.out
   clear hK K a0 a1 a2 a3 a4 a5 a6 f6
   try simp only [List.getElem_toArray, List.getElem_cons_succ, List.getElem_cons_zero, Act.put, List.setIfInBounds_toArray, List.set_cons_zero, List.set_cons_succ]
   refine wpAnyH_done (by kernel_rfl) ?_ _
   obtain ⟨W3, hW3⟩ : ∃ X, X40.setCell ⟨R, 6, none⟩ (.slice pX40 (m + 1) qX40) = X := ⟨_, rfl⟩
   have k3 : Kp (fun j => j = R) X40 W3 := by rw [← hW3]; exact Kp.set _ _ _ _
   have r3 : W3.heap[R]? = some (.cells #[.int .i64 d.cap, .int .i64 d.meet, .slice d.p1 d.o1.length d.c1, .slice d.p2 d.o2.length d.c2, .int .u64 d.high, .int .u64 s, .slice pX40 (m + 1) qX40] 74 (0, 0)) := by rw [← hW3, set_row _ (row_on HA.out BX40.out)]; rfl
   have HC3 := hid (k3.row (row_on HC.out BX40.out) (by omega))
   have hw1 := btr HBW.out BX40.out
   have HB3 := hid (show Below w.heap.size w W3 from hw1.trans (k3.below hw1.size (fun b hb e => by have := HRR.out; omega)))
   have HO3 := hid (show W3.ownsRow W2.heap.size 58 13 (.slice pX40 (m + 1) qX40) (m + 1) (evs es ++ ecs (e.num s)) from own_same OX40.out (fun g hg => k3.obj g (OX40.out.lt g hg).2 (by have h1 := (OX40.out.lt g hg).1; have h2 := row_lt HA.out; omega)))
   rw [hW3]
   clear hW3 k3 hw1
   obtain ⟨a0, a1, a2, a3, a4, a5, a6⟩ := row7 r3
   clear r3
   have AI := hid (show (Try.prog.info? 74).map (·.size) = some (#[.int .i64 d.cap, .int .i64 d.meet, .slice d.p1 d.o1.length d.c1, .slice d.p2 d.o2.length d.c2, .int .u64 d.high, .int .u64 s, .slice pX40 (m + 1) qX40] : Array Value).size from info74)
   have AS := hid (show (#[.int .i64 0, .int .i64 0, .slice none 0 0, .slice none 0 0, .int .u64 0, .int .u64 0, .slice none 0 0] : Array Value).size = (#[.int .i64 d.cap, .int .i64 d.meet, .slice d.p1 d.o1.length d.c1, .slice d.p2 d.o2.length d.c2, .int .u64 d.high, .int .u64 s, .slice pX40 (m + 1) qX40] : Array Value).size from rfl)
   have AA := hid (show (#[.int .i64 d.cap, .int .i64 d.meet, .slice d.p1 d.o1.length d.c1, .slice d.p2 d.o2.length d.c2, .int .u64 d.high, .int .u64 s, .slice pX40 (m + 1) qX40] : Array Value).all (·.oneCell') = true from by simp [Value.oneCell'])
   go_wp2_with (refine wpList_store_row (by rfl) 74 (.tmp 4) (.tmp 23) (by rfl) (R + 1 + 1) #[.int .i64 d.cap, .int .i64 d.meet, .slice d.p1 d.o1.length d.c1, .slice d.p2 d.o2.length d.c2, .int .u64 d.high, .int .u64 s, .slice pX40 (m + 1) qX40] (by rfl) (by rfl) 74 _ HC3.out AI.out AS.out AA.out ?_)
   refine bodyPost_ret (results_cell_row (fn := Try.f30) Try.results30 _ _ (R + 1 + 1) 74 #[.int .i64 d.cap, .int .i64 d.meet, .slice d.p1 d.o1.length d.c1, .slice d.p2 d.o2.length d.c2, .int .u64 d.high, .int .u64 s, .slice pX40 (m + 1) qX40] (0, 0) _ (by rfl) (setRow_heap _ _ _ _ 74 (0, 0) HC3.out) Try.underlying74 rfl info74) rfl ⟨pX40, qX40, ?_, ?_, ?_⟩
   ·rw [← HSS.out]; rfl
   ·unfold Rv; rw [List.length_append, HM.out, evs_snoc, HSS.out]; exact own_base (own_same HO3.out (fun g hg => (setRow_kp W3 (R + 1 + 1) _).obj g (HO3.out.lt g hg).2 (by have h1 := (HO3.out.lt g hg).1; have h2 := row_lt HC.out; omega))) (Nat.zero_le _)
   ·exact setRow_below HB3.out (by have := HRR.out; omega)
end Go.Proofs.Ytalgndgoedlpoaa
