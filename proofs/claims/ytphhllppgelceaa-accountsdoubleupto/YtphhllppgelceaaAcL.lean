/-
  New, Open.
-/
import Derived.Test.YtphhllppgelceaaGe
import Derived.WalkSpells
namespace Go.Proofs.Ytphhllppgelceaa.Ac
open List renaming getElem?_toArray → lqA, getElem?_cons_succ → lqB, getElem?_cons_zero → lqC
open List renaming getElem_toArray → lgA, getElem_cons_succ → lgB, getElem_cons_zero → lgC, setIfInBounds_toArray → lsA, set_cons_zero → lsB, set_cons_succ → lsC
open Go.RowKit Go.Deep Go.Maps Go.Proofs.Ytphhllppgelceaa.MonM
set_option linter.unusedVariables false
set_option linter.unusedSimpArgs false
set_option maxHeartbeats 8000000
set_option maxRecDepth 100000
attribute [local go_sem ↓] Go.wp_at_zero Go.wp_at_succ
theorem new_no (ma ta bb : Int) (w : World) (h : bb = 0 ∨ bb < ma ∨ bb < ta) :
    Calls Try.prog 19 #[.agg #[.int .u32 ma, .int .u32 ta, .int .u32 bb]] w fun e w' => e = .returned (.tuple #[.pointer none, .int .i64 1]) ∧ Below w.heap.size w w' := by
  have HB := hid (ball w (.cells #[.int .u32 ma, .int .u32 ta, .int .u32 bb] 24))
  by_cases h0 : bb = 0
  · have a0 : (bb == 0) = true := by simpa using h0
    go_enter Try.func19, Try.ntmps19
    go_wp2
    go_ret2
    exact ⟨rfl, ball _ _⟩
  · have a0 : (bb == 0) = false := by simpa using h0
    by_cases h1 : bb < ma
    · have a1 : decide (bb < ma) = true := by simpa using h1
      go_enter Try.func19, Try.ntmps19
      go_wp2
      go_ret2
      exact ⟨rfl, HB.out⟩
    · have a1 : decide (bb < ma) = false := by simpa using h1
      have a2 : decide (bb < ta) = true := by simp; omega
      go_enter Try.func19, Try.ntmps19
      go_wp2
      go_ret2
      exact ⟨rfl, HB.out⟩
def ls0 (ma ta bb : Int) : Ls := ⟨ma, ta, bb, fun _ => none, fun _ _ => po0, []⟩
theorem po0_ok : PoOk po0 ∧ absI po0.qt ≤ 4294967295 := ⟨⟨⟨by decide, by decide⟩, ⟨by decide, by decide⟩⟩, by decide⟩
theorem new_ok (ma ta bb : Int) (w : World) (h0 : 0 ≤ ma) (h1 : 0 ≤ ta) (h2 : 0 < bb) (h3 : ma ≤ bb) (h4 : ta ≤ bb) (h5 : bb < 4294967296) :
    Calls Try.prog 19 #[.agg #[.int .u32 ma, .int .u32 ta, .int .u32 bb]] w fun e w' => ∃ G, e = .returned (.tuple #[.pointer (some ⟨G, 0, none⟩), .int .i64 0]) ∧ w.heap.size ≤ G ∧ Lg w' G (fun b => b = G) 0 (ls0 ma ta bb) ∧ Below w.heap.size w w' := by
  have a0 : (bb == 0) = false := by simp; omega
  have a1 : decide (bb < ma) = false := by simp; omega
  have a2 : decide (bb < ta) = false := by simp; omega
  have TF := hid (show Tf (ls0 ma ta bb) from ⟨h0, h3, h1, h4, h2, h5⟩)
  obtain ⟨W, hW⟩ : ∃ W, w.alloc (.cells #[.int .u32 ma, .int .u32 ta, .int .u32 bb] 24) = W := ⟨_, rfl⟩
  have HB := hid (show Below w.heap.size w W from by rw [← hW]; exact ball _ _)
  have hz : W.heap.size = w.heap.size + 1 := by rw [← hW]; exact Array.size_push _
  have HZ := hid hz
  have HW := hid hW
  have b0 := row_cell (show W.heap[w.heap.size]? = some (.cells #[.int .u32 ma, .int .u32 ta, .int .u32 bb] 24 (0, 0)) from by rw [← hW]; exact World.alloc_heap_new _ _) 0
  have b1 := row_cell (show W.heap[w.heap.size]? = some (.cells #[.int .u32 ma, .int .u32 ta, .int .u32 bb] 24 (0, 0)) from by rw [← hW]; exact World.alloc_heap_new _ _) 1
  have b2 := row_cell (show W.heap[w.heap.size]? = some (.cells #[.int .u32 ma, .int .u32 ta, .int .u32 bb] 24 (0, 0)) from by rw [← hW]; exact World.alloc_heap_new _ _) 2
  simp only [lqA, lqB, lqC] at b0 b1 b2
  clear h0 h1 h2 h3 h4 h5 hz hW
  go_enter Try.func19, Try.ntmps19
  go_upto_region 1 with fail
  rw [HW.out]
  go_wp2
  go_ret2
  refine ⟨W.heap.size, rfl, by have := HZ.out; omega, ⟨none, none, none, 0, ?_⟩, btr HB.out (ball _ _)⟩
  exact ⟨World.alloc_heap_new _ _, rfl, fun b hb => (by cases hb), own_nil _ _ _ _, fun x => rfl, fun m i => rfl, Iff.rfl, fun x v h => (by cases h), fun m i => po0_ok, fun b hb => (by rw [hb]; exact row_lt (World.alloc_heap_new _ _)), Nat.le_refl _, TF.out⟩
theorem amt0 : Amt 0 := ⟨by decide, by decide⟩
theorem open_zero {w : World} {G : Nat} : Calls Try.prog 20 #[.pointer (some ⟨G, 0, none⟩), .int .u32 0] w fun e w' => e = .returned (.int .i64 1) ∧ Below w.heap.size w w' := by
  go_enter Try.func20, Try.ntmps20
  go_wp2
  go_ret
  exact ⟨rfl, Below.refl _ _⟩
theorem open_there {w : World} {G : Nat} {O : Nat → Prop} {k : Nat} {s : Ls} (h : Lg w G O k s) (m : Int) (hm : U32 m) (h0 : m ≠ 0) (hf : (s.f (m, 1)).isSome = true) :
    Calls Try.prog 20 #[.pointer (some ⟨G, 0, none⟩), .int .u32 m] w fun e w' => e = .returned (.int .i64 81) ∧ Below w.heap.size w w' := by
  have C := hid (isOpen_any h m hm)
  rw [hf] at C
  have a0 : (m == 0) = false := by simpa using h0
  clear h
  go_enter Try.func20, Try.ntmps20
  go_wp2_with (go_at_call 35; with_reducible refine C.out.mono ?_; rintro e w4 ⟨rfl, hb⟩; have HB4 := hid hb; clear hb)
  go_ret
  exact ⟨rfl, HB4.out⟩
def opn (s : Ls) (m : Int) : Ls := { s with f := upd s.f (m, 1) 0 }
theorem Lgx.opn {w w' : World} {G : Nat} {O : Nat → Prop} {k : Nat} {s : Ls} {b : Nat} {P : Option Nat} {p : Option Addr} {c : Nat} (h : Lgx w G O k s (some b) P p c) (x : Int × Int) (v : Int) (hv : Amt v) (hM : Mp kvB w' b (k + 1) (upd s.f x v)) (hK : Kp (fun j => j = b) w w') : Lgx w' G O (k + 1) { s with f := upd s.f x v } (some b) P p c := by
  have hb : ∃ es cl, w.heap[b]? = some (.map es cl) := by
    obtain ⟨_, D, ⟨es, cl, h1, _⟩, _⟩ := h.bal
    exact ⟨es, cl, h1⟩
  obtain ⟨es, cl, hb⟩ := hb
  have hc : ∀ {g : Nat} {cs : Array Value} {t : TypeId}, w.heap[g]? = some (.cells cs t (0, 0)) → g ≠ b := fun {g cs t} e he => by
    rw [he, hb] at e
    cases e
  refine ⟨hK.row h.row (hc h.row), h.oG, h.oE, own_same h.own (fun g hg => ?_), ⟨h.bal.1, hM⟩, ?_, h.both, fun y u hy => ?_, h.gok, fun b hb => Nat.lt_of_lt_of_le (h.lt b hb) hK.size, Nat.le_succ_of_le h.len, ⟨h.tf.m0, h.tf.mb, h.tf.t0, h.tf.tb, h.tf.b0, h.tf.b1⟩⟩
  · obtain ⟨cur, hcur⟩ := own_ty h.own hg
    exact hK.obj g (row_lt hcur) (hc hcur)
  · have hp := h.pos
    cases P with
    | none => exact hp
    | some q =>
      obtain ⟨a, r, H⟩ := hp
      obtain ⟨n1, n2⟩ := H.nb b rfl
      refine ⟨a, r, H.own, (H.mp.kept hK (fun e => n1 e.symm)).mono (Nat.le_succ _), H.no, fun m o hm ho => ?_, H.inj, H.nb⟩
      obtain ⟨M, e, x1, x2, x3, x4⟩ := H.yes m o hm ho
      refine ⟨M, e, x1, x2, (x3.kept hK (fun e2 => ?_)).mono (Nat.le_succ _), x4⟩
      subst e2
      exact n2 m hm (by rw [ho, e])
  · by_cases e : y = x
    · subst e
      have hy : upd s.f y v y = some u := hy
      rw [upd_same] at hy
      cases hy
      exact hv
    · have hy : upd s.f x v y = some u := hy
      rw [upd_other _ _ e] at hy
      exact h.amt y u hy
theorem mp_empty {K V : Type} (s : Kv K V) {w : World} {b : Nat} (h : w.heap[b]? = some (.map #[] 0)) (k : Nat) : Mp s w b k (fun _ => none) :=
  ⟨.map [], ⟨#[], 0, h, ⟨by simp, MapKept.stamped_empty 0, by simp⟩, Nat.zero_le _, rfl⟩, fun k _ => rfl, fun k v _ h => (by cases h)⟩
theorem set_row {w : World} {B k : Nat} {row : Array Value} {t : TypeId} (v : Value) (h : w.heap[B]? = some (.cells row t (0, 0))) : (w.setCell ⟨B, k, none⟩ v).heap[B]? = some (.cells (row.setIfInBounds k v) t (0, 0)) := heap_setCell_same w B k row t v h
theorem lgx_made {w w' : World} {G : Nat} {O : Nat → Prop} {k : Nat} {s : Ls} {p : Option Addr} {c b : Nat} (h : Lgx w G O k s none none p c) (hb : w.heap.size = b) (hK : Kp (fun j => j = G) w w') (hG : w'.heap[G]? = some (.cells #[.int .u32 s.ma, .int .u32 s.ta, .int .u32 s.bb, .map (some b), .slice p s.es.length c, .map (some (b + 1))] 66 (0, 0)))
    (hM : w'.heap[b]? = some (.map #[] 0)) (hM1 : w'.heap[b + 1]? = some (.map #[] 0)) (hz : b + 1 + 1 ≤ w'.heap.size) : Lgx w' G (fun j => O j ∨ j = b ∨ j = b + 1) k s (some b) (some (b + 1)) p c := by
  have hf : s.f = fun _ => none := funext h.bal
  refine ⟨hG, .inl h.oG, fun j hj => .inl (h.oE j hj), own_same h.own (fun g hg => ?_), ⟨.inr (.inl rfl), by rw [hf]; exact mp_empty kvB hM k⟩, ⟨fun _ => none, fun _ _ => none, .inr (.inr rfl), mp_empty kvM hM1 k, fun m _ _ i _ => h.pos m i, fun m o _ e => (by cases e), fun m m' M _ _ e => (by cases e), fun b' e => ?_⟩, ⟨fun e => (by cases e), fun e => (by cases e)⟩, h.amt, h.gok, fun j hj => ?_, h.len, h.tf⟩
  · obtain ⟨cur, hcur⟩ := own_ty h.own hg
    exact hK.obj g (row_lt hcur) (row_ne hcur h.row (by decide))
  · cases e
    exact ⟨by omega, fun m _ e => (by cases e)⟩
  · rcases hj with h1 | h1 | h1
    · have := h.lt j h1
      have := hK.size
      omega
    · omega
    · omega
theorem open_new {w : World} {G : Nat} {O : Nat → Prop} {k : Nat} {s : Ls} (h : Lg w G O k s) (m : Int) (hm : U32 m) (h0 : m ≠ 0) (hf : s.f (m, 1) = none) (hk : k < maxLen) :
    Calls Try.prog 20 #[.pointer (some ⟨G, 0, none⟩), .int .u32 m] w fun e w' => e = .returned (.int .i64 0) ∧ ∃ O', Lg w' G O' (k + 1) (opn s m) ∧ Kp O w w' ∧ Ex w O O' := by
  have C := hid (isOpen_any h m hm)
  rw [hf] at C
  simp only [Option.isSome_none] at C
  obtain ⟨B, P, p, c, h⟩ := h
  have a0 : (m == 0) = false := by simpa using h0
  have CC := hid (show ∀ U, Calls Try.prog 32 #[.int .u32 m] U fun e w' => e = .returned (.agg #[.int .u32 m, .int .i64 1]) ∧ Hid (Below U.heap.size U w') from fun U => cash_any m U)
  have eqm := fun U r => run_eql_map_nil (P := Try.prog) U 63 36 40 r Try.underlying63
  have rm : ∀ U : World, (Instr.makeMap 63 none).run Try.prog U = .ok (.map (some U.heap.size)) (U.alloc (.map #[] 0)) := fun U => run_makeMap 63 U
  have rm2 : ∀ U : World, (Instr.makeMap 64 none).run Try.prog U = .ok (.map (some U.heap.size)) (U.alloc (.map #[] 0)) := fun U => run_makeMap 64 U
  have HX := hid h
  have HM := hid hm
  clear h hf h0 hm
  cases B with
  | some b =>
    have HG0 := hid HX.out.row
    unfold lrow at HG0
    have a3 := row_cell HG0.out 3
    simp only [lqA, lqB, lqC] at a3
    go_enter Try.func20, Try.ntmps20
    go_upto_region 5 with (go_at_call 35; with_reducible refine C.out.mono ?_; rintro e X ⟨rfl, hb⟩; have HB4 := hid hb; clear hb)
    have HX4 := hid (HX.out.on HB4.out)
    have HG := hid HX4.out.row
    unfold lrow at HG
    have b3 := row_cell HG.out 3
    simp only [lqA, lqB, lqC] at b3
    go_upto_region 8 with fail
    have NB := hid (show G ≠ b from fun e => by obtain ⟨_, D, ⟨es, cl, h1, _⟩, _⟩ := HX4.out.bal; have h2 := HX4.out.row; rw [e, h1] at h2; cases h2)
    obtain ⟨V1, hV1⟩ : ∃ U, X.drew = U := ⟨_, rfl⟩
    have BV1 := hid (show Below X.heap.size X V1 from by rw [← hV1]; exact bdrew1 _)
    have r2 := hid (row_on HG.out BV1.out)
    refine wp_region_held_drew (S := fun U => U.cell? ⟨G, 3, none⟩ = some (.map (some b))) (by kernel_rfl) ?_ (fun hHeld => ?_)
    · (try dsimp only); rw [hV1]; exact row_cell r2.out 3
    rw [hV1] at hHeld ⊢
    clear hV1
    refine' wpAnyH_take (i := 0) rfl (by kernel_rfl) (by kernel_rfl) (by kernel_rfl) (fun _ _ _ h => h) (Or.inl ⟨by kernel_rfl, ?_⟩) (by assumption) ?_
    rotate_left
    · (intro w hSw; (try dsimp only at hSw); go_simp; try (with_reducible rfl))
    try simp only [lgA, lgB, lgC, Act.put, lsA, lsB, lsC]
    refine' wpAnyH_take (i := 1) rfl (by kernel_rfl) (by kernel_rfl) (by kernel_rfl) (fun _ _ _ h => h) (Or.inl ⟨by kernel_rfl, ?_⟩) (by assumption) ?_
    rotate_left
    · (intro w hSw; (try dsimp only at hSw); go_simp; try (with_reducible rfl))
    try simp only [lgA, lgB, lgC, Act.put, lsA, lsB, lsC]
    refine' wpAnyH_take (i := 2) rfl (by kernel_rfl) (by kernel_rfl) (by kernel_rfl) (fun _ _ _ h => h) (Or.inl ⟨by kernel_rfl, ?_⟩) (by assumption) ?_
    rotate_left
    · (intro w hSw; (try dsimp only at hSw); go_simp; try (with_reducible rfl))
    try simp only [lgA, lgB, lgC, Act.put, lsA, lsB, lsC]
    refine' wpAnyH_take (i := 3) rfl (by kernel_rfl) (by kernel_rfl) (by kernel_rfl) (fun _ _ _ h => h) (Or.inl ⟨by kernel_rfl, ?_⟩) (by assumption) ?_
    rotate_left
    · (intro w hSw; (try dsimp only at hSw); go_simp; try (with_reducible rfl))
    try simp only [lgA, lgB, lgC, Act.put, lsA, lsB, lsC]
    refine' wpAnyH_take (i := 4) rfl (by kernel_rfl) (by kernel_rfl) (by kernel_rfl) (fun _ _ _ h => h) (Or.inl ⟨by kernel_rfl, ?_⟩) (by assumption) ?_
    rotate_left
    · (intro w hSw; (try dsimp only at hSw); go_simp; try (with_reducible rfl))
    try simp only [lgA, lgB, lgC, Act.put, lsA, lsB, lsC]
    refine' wpAnyH_take (i := 6) rfl (by kernel_rfl) (by kernel_rfl) (by kernel_rfl) (fun _ _ _ h => h) (Or.inl ⟨by kernel_rfl, ?_⟩) (by assumption) ?_
    rotate_left
    · (intro w hSw; (try dsimp only at hSw); go_simp; try (with_reducible rfl))
    try simp only [lgA, lgB, lgC, Act.put, lsA, lsB, lsC]
    refine wpAnyH_ready (rs := [5]) (by kernel_rfl) (by simp) ?_
    refine (AllReadyH.cons rfl (fun K hK => ?_) AllReadyH.nil)
    go_simp
    go_at_call 32
    with_reducible refine (CC.out V1).mono ?_
    rintro e X3 ⟨rfl, DbX3⟩
    have r4 := hid (row_on r2.out DbX3.out)
    have DX3 := hid (btr BV1.out DbX3.out)
    (try go_wp2_with fail)
    refine hK.out _ _ ?_ (fun hHeld => ?_)
    · (try dsimp only); exact row_cell r4.out 3
    clear hK K
    try simp only [lgA, lgB, lgC, Act.put, lsA, lsB, lsC]
    refine wpAnyH_ready (rs := [7]) (by kernel_rfl) (by simp) ?_
    refine (AllReadyH.cons rfl (fun K hK => ?_) AllReadyH.nil)
    obtain ⟨Y, hmu, hM, hK9⟩ := (HX4.out.on DX3.out).bal.2.put okB hk (m, 1) ⟨HM.out, wf1⟩ 0
    have hmu : (Instr.mapUpdate 63 (.map (some b)) (.agg #[.int .u32 m, .int .i64 1]) (.agg #[.int .u64 0, .int .u64 0])).run Try.prog X3 = .ok () Y := hmu
    have HY := hid hM
    have KY := hid hK9
    clear hM hK9
    go_simp
    have r5 := hid (KY.out.row r4.out (fun e => NB.out e))
    refine hK.out _ _ ?_ (fun hHeld => ?_)
    · (try dsimp only); exact row_cell r5.out 3
    clear hK K
    try simp only [lgA, lgB, lgC, Act.put, lsA, lsB, lsC]
    refine wpAnyH_done (by kernel_rfl) ?_ _
    go_wp2
    go_ret
    refine ⟨rfl, O, ⟨some b, P, p, c, ((HX4.out.on DX3.out).opn (m, 1) 0 amt0 HY.out KY.out)⟩, ?_, Ex.refl _ _⟩
    exact (Kp.of O (btr HB4.out DX3.out)).trans KY.out (fun g _ e => by rw [e]; exact HX4.out.bal.1)
  | none =>
    have e9 : P = none := HX.out.both.1 rfl
    subst e9
    have HG0 := hid HX.out.row
    unfold lrow at HG0
    have a3 := row_cell HG0.out 3
    simp only [lqA, lqB, lqC] at a3
    go_enter Try.func20, Try.ntmps20
    go_upto_region 5 with (go_at_call 35; with_reducible refine C.out.mono ?_; rintro e X ⟨rfl, hb⟩; have HB4 := hid hb; clear hb)
    have HX4 := hid (HX.out.on HB4.out)
    have HG4 := hid HX4.out.row
    unfold lrow at HG4
    have b3 := row_cell HG4.out 3
    simp only [lqA, lqB, lqC] at b3
    have gX : G < X.heap.size := row_lt HG4.out
    obtain ⟨b, hb⟩ : ∃ b, X.heap.size = b := ⟨_, rfl⟩
    obtain ⟨X1, hX1⟩ : ∃ Y, X.alloc (.map #[] 0) = Y := ⟨_, rfl⟩
    have rm1 := rm X
    rw [hX1, hb] at rm1
    have D1 := hid (show Below X.heap.size X X1 from by rw [← hX1]; exact ball _ _)
    have Z1 := hid (show X1.heap.size = b + 1 from by rw [← hX1, ← hb]; exact Array.size_push _)
    have M1 := hid (show X1.heap[b]? = some (.map #[] 0) from by rw [← hX1, ← hb]; exact World.alloc_heap_new _ _)
    have HG1 := hid (row_on HG4.out D1.out)
    have c3 := row_cell HG1.out 3
    simp only [lqA, lqB, lqC] at c3
    have f3 := row_frz HG1.out 3
    rw [hb] at gX
    have HB := hid hb
    clear hX1 rm hb
    go_upto_region 7 with fail
    obtain ⟨X2, hX2⟩ : ∃ Y, X1.setCell ⟨G, 3, none⟩ (.map (some b)) = Y := ⟨_, rfl⟩
    rw [hX2]
    have K2 := hid (show Kp (fun j => j = G) X1 X2 from by rw [← hX2]; exact Kp.set _ _ _ _)
    have HG2 := hid (show X2.heap[G]? = some (.cells #[.int .u32 s.ma, .int .u32 s.ta, .int .u32 s.bb, .map (some b), .slice p s.es.length c, .map none] 66 (0, 0)) from by rw [← hX2]; exact set_row _ HG1.out)
    have Z2 := hid (show X2.heap.size = b + 1 from by rw [← hX2, ← Z1.out]; simp [World.setCell])
    obtain ⟨X3, hX3⟩ : ∃ Y, X2.alloc (.map #[] 0) = Y := ⟨_, rfl⟩
    have rm3 := rm2 X2
    rw [hX3, Z2.out] at rm3
    have D3 := hid (show Below X2.heap.size X2 X3 from by rw [← hX3]; exact ball _ _)
    have Z3 := hid (show X3.heap.size = b + 1 + 1 from by rw [← hX3, ← Z2.out]; exact Array.size_push _)
    have M3 := hid (show X3.heap[b + 1]? = some (.map #[] 0) from by rw [← hX3, ← Z2.out]; exact World.alloc_heap_new _ _)
    have HG3 := hid (row_on HG2.out D3.out)
    have c5 := row_cell HG3.out 5
    simp only [lqA, lqB, lqC] at c5
    have f5 := row_frz HG3.out 5
    clear hX2 hX3 rm2 c3 f3 b3
    go_upto_region 8 with fail
    obtain ⟨Y4, hY4⟩ : ∃ Y, X3.setCell ⟨G, 5, none⟩ (.map (some (b + 1))) = Y := ⟨_, rfl⟩
    rw [hY4]
    have K4 := hid (show Kp (fun j => j = G) X3 Y4 from by rw [← hY4]; exact Kp.set _ _ _ _)
    have HG := hid (show Y4.heap[G]? = some (.cells #[.int .u32 s.ma, .int .u32 s.ta, .int .u32 s.bb, .map (some b), .slice p s.es.length c, .map (some (b + 1))] 66 (0, 0)) from by rw [← hY4]; exact set_row _ HG3.out)
    have KX := hid (show Kp (fun j => j = G) X Y4 from ((Kp.of (fun j => j = G) D1.out).trans K2.out (fun g _ e => e)).trans ((Kp.of (fun j => j = G) D3.out).trans K4.out (fun g _ e => e)) (fun g _ e => e))
    have Z4 := hid (show b + 1 + 1 ≤ Y4.heap.size from by rw [← Z3.out]; exact K4.out.size)
    have M4 := hid (show Y4.heap[b + 1]? = some (.map #[] 0) from K4.out.row M3.out (fun e => by omega))
    have M0 := hid (show Y4.heap[b]? = some (.map #[] 0) from K4.out.row (row_on (K2.out.row M1.out (fun e => by omega)) D3.out) (fun e => by omega))
    have HX9 := hid (show Lgx Y4 G (fun j => O j ∨ j = b ∨ j = b + 1) k s (some b) (some (b + 1)) p c from lgx_made HX4.out HB.out KX.out HG.out M0.out M4.out Z4.out)
    have NB := hid (show G ≠ b from by omega)
    clear hY4
    obtain ⟨V6, hV6⟩ : ∃ U, Y4.drew = U := ⟨_, rfl⟩
    have BV6 := hid (show Below Y4.heap.size Y4 V6 from by rw [← hV6]; exact bdrew1 _)
    have r7 := hid (row_on HG.out BV6.out)
    refine wp_region_held_drew (S := fun U => U.cell? ⟨G, 3, none⟩ = some (.map (some b))) (by kernel_rfl) ?_ (fun hHeld => ?_)
    · (try dsimp only); rw [hV6]; exact row_cell r7.out 3
    rw [hV6] at hHeld ⊢
    clear hV6
    refine' wpAnyH_take (i := 0) rfl (by kernel_rfl) (by kernel_rfl) (by kernel_rfl) (fun _ _ _ h => h) (Or.inl ⟨by kernel_rfl, ?_⟩) (by assumption) ?_
    rotate_left
    · (intro w hSw; (try dsimp only at hSw); go_simp; try (with_reducible rfl))
    try simp only [lgA, lgB, lgC, Act.put, lsA, lsB, lsC]
    refine' wpAnyH_take (i := 1) rfl (by kernel_rfl) (by kernel_rfl) (by kernel_rfl) (fun _ _ _ h => h) (Or.inl ⟨by kernel_rfl, ?_⟩) (by assumption) ?_
    rotate_left
    · (intro w hSw; (try dsimp only at hSw); go_simp; try (with_reducible rfl))
    try simp only [lgA, lgB, lgC, Act.put, lsA, lsB, lsC]
    refine' wpAnyH_take (i := 2) rfl (by kernel_rfl) (by kernel_rfl) (by kernel_rfl) (fun _ _ _ h => h) (Or.inl ⟨by kernel_rfl, ?_⟩) (by assumption) ?_
    rotate_left
    · (intro w hSw; (try dsimp only at hSw); go_simp; try (with_reducible rfl))
    try simp only [lgA, lgB, lgC, Act.put, lsA, lsB, lsC]
    refine' wpAnyH_take (i := 3) rfl (by kernel_rfl) (by kernel_rfl) (by kernel_rfl) (fun _ _ _ h => h) (Or.inl ⟨by kernel_rfl, ?_⟩) (by assumption) ?_
    rotate_left
    · (intro w hSw; (try dsimp only at hSw); go_simp; try (with_reducible rfl))
    try simp only [lgA, lgB, lgC, Act.put, lsA, lsB, lsC]
    refine' wpAnyH_take (i := 4) rfl (by kernel_rfl) (by kernel_rfl) (by kernel_rfl) (fun _ _ _ h => h) (Or.inl ⟨by kernel_rfl, ?_⟩) (by assumption) ?_
    rotate_left
    · (intro w hSw; (try dsimp only at hSw); go_simp; try (with_reducible rfl))
    try simp only [lgA, lgB, lgC, Act.put, lsA, lsB, lsC]
    refine' wpAnyH_take (i := 6) rfl (by kernel_rfl) (by kernel_rfl) (by kernel_rfl) (fun _ _ _ h => h) (Or.inl ⟨by kernel_rfl, ?_⟩) (by assumption) ?_
    rotate_left
    · (intro w hSw; (try dsimp only at hSw); go_simp; try (with_reducible rfl))
    try simp only [lgA, lgB, lgC, Act.put, lsA, lsB, lsC]
    refine wpAnyH_ready (rs := [5]) (by kernel_rfl) (by simp) ?_
    refine (AllReadyH.cons rfl (fun K hK => ?_) AllReadyH.nil)
    go_simp
    go_at_call 32
    with_reducible refine (CC.out V6).mono ?_
    rintro e X8 ⟨rfl, DbX8⟩
    have r9 := hid (row_on r7.out DbX8.out)
    have DX8 := hid (btr BV6.out DbX8.out)
    (try go_wp2_with fail)
    refine hK.out _ _ ?_ (fun hHeld => ?_)
    · (try dsimp only); exact row_cell r9.out 3
    clear hK K
    try simp only [lgA, lgB, lgC, Act.put, lsA, lsB, lsC]
    refine wpAnyH_ready (rs := [7]) (by kernel_rfl) (by simp) ?_
    refine (AllReadyH.cons rfl (fun K hK => ?_) AllReadyH.nil)
    obtain ⟨Y, hmu, hM, hK9⟩ := (HX9.out.on DX8.out).bal.2.put okB hk (m, 1) ⟨HM.out, wf1⟩ 0
    have hmu : (Instr.mapUpdate 63 (.map (some b)) (.agg #[.int .u32 m, .int .i64 1]) (.agg #[.int .u64 0, .int .u64 0])).run Try.prog X8 = .ok () Y := hmu
    have HY := hid hM
    have KY := hid hK9
    clear hM hK9
    go_simp
    have r10 := hid (KY.out.row r9.out (fun e => NB.out e))
    refine hK.out _ _ ?_ (fun hHeld => ?_)
    · (try dsimp only); exact row_cell r10.out 3
    clear hK K
    try simp only [lgA, lgB, lgC, Act.put, lsA, lsB, lsC]
    refine wpAnyH_done (by kernel_rfl) ?_ _
    go_wp2
    go_ret
    refine ⟨rfl, fun j => O j ∨ j = b ∨ j = b + 1, ⟨some b, some (b + 1), p, c, ((HX9.out.on DX8.out).opn (m, 1) 0 amt0 HY.out KY.out)⟩, ?_, fun j hj => ?_⟩
    · refine ((Kp.of O HB4.out).trans KX.out (fun g _ e => by rw [e]; exact HX4.out.oG)).trans ((Kp.of (fun j => j = b) DX8.out).trans KY.out (fun g _ e => e)) (fun g hg e => ?_)
      exact absurd e (fun e => by have := HB4.out.size; have := HB.out; omega)
    · rcases hj with h | h | h
      · exact .inl h
      · exact .inr (by have := HB4.out.size; have := HB.out; omega)
      · exact .inr (by have := HB4.out.size; have := HB.out; omega)
end Go.Proofs.Ytphhllppgelceaa.Ac
