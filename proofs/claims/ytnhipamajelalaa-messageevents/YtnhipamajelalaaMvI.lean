/-
  The document's eventValues.
-/
import Derived.Test.YtnhipamajelalaaMvG
import Derived.Test.YtnhipamajelalaaMgI
namespace Go.Proofs.Ytnhipamajelalaa
open Go.RowKit Go.Maps Go.Deep Go.Lib
set_option linter.unusedVariables false
set_option linter.unusedSimpArgs false

def goodE (x : Evt) (t : Int) : Bool := x.okV t && (decide (most t = 0) || decide (x.f t ≤ most t))
def bareE (kd : Int) : Evt := ⟨0, kd, 0, 0, 0, 0, 0, 0, 0, 0, 0, 0, 0⟩
def agnE (x : Evt) (L : List Int) : Evt := L.foldl (fun y t => y.set t (x.f t)) (bareE x.kd)
theorem agnE_step (x : Evt) (L : List Int) (j : Nat) (h : j < L.length) : agnE x (L.take (j + 1)) = (agnE x (L.take j)).set L[j] (x.f L[j]) := by
  unfold agnE
  rw [List.take_succ_eq_append_getElem h, List.foldl_append]
  rfl
structure VaE (w : World) (x : Evt) (k : Int) (q : Option Addr) (L : List Int) (A B j : Nat) (v : Value) (wr : World) : Prop where
  i : wr.heap[w.heap.size]? = some (.cells x.v 39 (0, 0))
  a : wr.heap[A]? = some (.cells (agnE x (L.take j)).v 39 (0, 0))
  s : Sf wr q k L
  o : wr.ownsRow B 22 1 v j (uv ((L.take j).map x.f))
  bel : Below w.heap.size w wr
  bs : B ≤ wr.heap.size
  g : (L.take j).all (goodE x) = true
theorem VaE.below {w wr w' : World} {x : Evt} {k : Int} {q : Option Addr} {L : List Int} {A B j : Nat} {v : Value} (h : VaE w x k q L A B j v wr) (hb : Below wr.heap.size wr w') : VaE w x k q L A B j v w' :=
  ⟨row_on h.i hb, row_on h.a hb, h.s.on hb, h.o.kept (grown_of hb) (by cases v.ownBlock <;> simp), btr h.bel hb, Nat.le_trans h.bs hb.size, h.g⟩
theorem VaE.drew {w wr : World} {x : Evt} {k : Int} {q : Option Addr} {L : List Int} {A B j : Nat} {v : Value} (h : VaE w x k q L A B j v wr) : VaE w x k q L A B j v wr.drew := h.below ⟨rfl, rfl, rfl, Nat.le_refl _, fun _ _ => rfl⟩
theorem frz_E {w : World} {g : Nat} {cs : Array Value} (h : w.heap[g]? = some (.cells cs 39 (0, 0))) : w.frozen? ⟨g, 0, none⟩ = false ∧ w.frozen? ⟨g, 1, none⟩ = false ∧ w.frozen? ⟨g, 2, none⟩ = false ∧ w.frozen? ⟨g, 3, none⟩ = false ∧ w.frozen? ⟨g, 4, none⟩ = false ∧ w.frozen? ⟨g, 5, none⟩ = false ∧ w.frozen? ⟨g, 6, none⟩ = false ∧ w.frozen? ⟨g, 7, none⟩ = false ∧ w.frozen? ⟨g, 8, none⟩ = false ∧ w.frozen? ⟨g, 9, none⟩ = false ∧ w.frozen? ⟨g, 10, none⟩ = false ∧ w.frozen? ⟨g, 11, none⟩ = false ∧ w.frozen? ⟨g, 12, none⟩ = false :=
  ⟨frozen_of_row w g 0 _ 39 h, frozen_of_row w g 1 _ 39 h, frozen_of_row w g 2 _ 39 h, frozen_of_row w g 3 _ 39 h, frozen_of_row w g 4 _ 39 h, frozen_of_row w g 5 _ 39 h, frozen_of_row w g 6 _ 39 h, frozen_of_row w g 7 _ 39 h, frozen_of_row w g 8 _ 39 h, frozen_of_row w g 9 _ 39 h, frozen_of_row w g 10 _ 39 h, frozen_of_row w g 11 _ 39 h, frozen_of_row w g 12 _ 39 h⟩
theorem st13 (w : World) (A : Nat) (o y : Evt) (h : w.heap[A]? = some (.cells o.v 39 (0, 0))) : ∃ W, (((((((((((((w.setCell ⟨A, 0, none⟩ (.int .u64 y.sq)).setCell ⟨A, 1, none⟩ (.int .i64 y.kd)).setCell ⟨A, 2, none⟩ (.int .u64 y.id)).setCell ⟨A, 3, none⟩ (.int .u64 y.ot)).setCell ⟨A, 4, none⟩ (.int .u64 y.tg)).setCell ⟨A, 5, none⟩ (.int .u32 y.me)).setCell ⟨A, 6, none⟩ (.int .i64 y.si)).setCell ⟨A, 7, none⟩ (.int .i64 y.ty)).setCell ⟨A, 8, none⟩ (.int .i64 y.pr)).setCell ⟨A, 9, none⟩ (.int .u64 y.qt)).setCell ⟨A, 10, none⟩ (.int .u64 y.pe)).setCell ⟨A, 11, none⟩ (.int .i64 y.re)).setCell ⟨A, 12, none⟩ (.int .i64 y.co)) = W ∧ St w A 39 y.v W := by
  have h1 := heap_setCell_same w A 0 _ 39 (.int .u64 y.sq) h
  have h2 := heap_setCell_same (w.setCell ⟨A, 0, none⟩ (.int .u64 y.sq)) A 1 _ 39 (.int .i64 y.kd) h1
  have h3 := heap_setCell_same ((w.setCell ⟨A, 0, none⟩ (.int .u64 y.sq)).setCell ⟨A, 1, none⟩ (.int .i64 y.kd)) A 2 _ 39 (.int .u64 y.id) h2
  have h4 := heap_setCell_same (((w.setCell ⟨A, 0, none⟩ (.int .u64 y.sq)).setCell ⟨A, 1, none⟩ (.int .i64 y.kd)).setCell ⟨A, 2, none⟩ (.int .u64 y.id)) A 3 _ 39 (.int .u64 y.ot) h3
  have h5 := heap_setCell_same ((((w.setCell ⟨A, 0, none⟩ (.int .u64 y.sq)).setCell ⟨A, 1, none⟩ (.int .i64 y.kd)).setCell ⟨A, 2, none⟩ (.int .u64 y.id)).setCell ⟨A, 3, none⟩ (.int .u64 y.ot)) A 4 _ 39 (.int .u64 y.tg) h4
  have h6 := heap_setCell_same (((((w.setCell ⟨A, 0, none⟩ (.int .u64 y.sq)).setCell ⟨A, 1, none⟩ (.int .i64 y.kd)).setCell ⟨A, 2, none⟩ (.int .u64 y.id)).setCell ⟨A, 3, none⟩ (.int .u64 y.ot)).setCell ⟨A, 4, none⟩ (.int .u64 y.tg)) A 5 _ 39 (.int .u32 y.me) h5
  have h7 := heap_setCell_same ((((((w.setCell ⟨A, 0, none⟩ (.int .u64 y.sq)).setCell ⟨A, 1, none⟩ (.int .i64 y.kd)).setCell ⟨A, 2, none⟩ (.int .u64 y.id)).setCell ⟨A, 3, none⟩ (.int .u64 y.ot)).setCell ⟨A, 4, none⟩ (.int .u64 y.tg)).setCell ⟨A, 5, none⟩ (.int .u32 y.me)) A 6 _ 39 (.int .i64 y.si) h6
  have h8 := heap_setCell_same (((((((w.setCell ⟨A, 0, none⟩ (.int .u64 y.sq)).setCell ⟨A, 1, none⟩ (.int .i64 y.kd)).setCell ⟨A, 2, none⟩ (.int .u64 y.id)).setCell ⟨A, 3, none⟩ (.int .u64 y.ot)).setCell ⟨A, 4, none⟩ (.int .u64 y.tg)).setCell ⟨A, 5, none⟩ (.int .u32 y.me)).setCell ⟨A, 6, none⟩ (.int .i64 y.si)) A 7 _ 39 (.int .i64 y.ty) h7
  have h9 := heap_setCell_same ((((((((w.setCell ⟨A, 0, none⟩ (.int .u64 y.sq)).setCell ⟨A, 1, none⟩ (.int .i64 y.kd)).setCell ⟨A, 2, none⟩ (.int .u64 y.id)).setCell ⟨A, 3, none⟩ (.int .u64 y.ot)).setCell ⟨A, 4, none⟩ (.int .u64 y.tg)).setCell ⟨A, 5, none⟩ (.int .u32 y.me)).setCell ⟨A, 6, none⟩ (.int .i64 y.si)).setCell ⟨A, 7, none⟩ (.int .i64 y.ty)) A 8 _ 39 (.int .i64 y.pr) h8
  have h10 := heap_setCell_same (((((((((w.setCell ⟨A, 0, none⟩ (.int .u64 y.sq)).setCell ⟨A, 1, none⟩ (.int .i64 y.kd)).setCell ⟨A, 2, none⟩ (.int .u64 y.id)).setCell ⟨A, 3, none⟩ (.int .u64 y.ot)).setCell ⟨A, 4, none⟩ (.int .u64 y.tg)).setCell ⟨A, 5, none⟩ (.int .u32 y.me)).setCell ⟨A, 6, none⟩ (.int .i64 y.si)).setCell ⟨A, 7, none⟩ (.int .i64 y.ty)).setCell ⟨A, 8, none⟩ (.int .i64 y.pr)) A 9 _ 39 (.int .u64 y.qt) h9
  have h11 := heap_setCell_same ((((((((((w.setCell ⟨A, 0, none⟩ (.int .u64 y.sq)).setCell ⟨A, 1, none⟩ (.int .i64 y.kd)).setCell ⟨A, 2, none⟩ (.int .u64 y.id)).setCell ⟨A, 3, none⟩ (.int .u64 y.ot)).setCell ⟨A, 4, none⟩ (.int .u64 y.tg)).setCell ⟨A, 5, none⟩ (.int .u32 y.me)).setCell ⟨A, 6, none⟩ (.int .i64 y.si)).setCell ⟨A, 7, none⟩ (.int .i64 y.ty)).setCell ⟨A, 8, none⟩ (.int .i64 y.pr)).setCell ⟨A, 9, none⟩ (.int .u64 y.qt)) A 10 _ 39 (.int .u64 y.pe) h10
  have h12 := heap_setCell_same (((((((((((w.setCell ⟨A, 0, none⟩ (.int .u64 y.sq)).setCell ⟨A, 1, none⟩ (.int .i64 y.kd)).setCell ⟨A, 2, none⟩ (.int .u64 y.id)).setCell ⟨A, 3, none⟩ (.int .u64 y.ot)).setCell ⟨A, 4, none⟩ (.int .u64 y.tg)).setCell ⟨A, 5, none⟩ (.int .u32 y.me)).setCell ⟨A, 6, none⟩ (.int .i64 y.si)).setCell ⟨A, 7, none⟩ (.int .i64 y.ty)).setCell ⟨A, 8, none⟩ (.int .i64 y.pr)).setCell ⟨A, 9, none⟩ (.int .u64 y.qt)).setCell ⟨A, 10, none⟩ (.int .u64 y.pe)) A 11 _ 39 (.int .i64 y.re) h11
  have h13 := heap_setCell_same ((((((((((((w.setCell ⟨A, 0, none⟩ (.int .u64 y.sq)).setCell ⟨A, 1, none⟩ (.int .i64 y.kd)).setCell ⟨A, 2, none⟩ (.int .u64 y.id)).setCell ⟨A, 3, none⟩ (.int .u64 y.ot)).setCell ⟨A, 4, none⟩ (.int .u64 y.tg)).setCell ⟨A, 5, none⟩ (.int .u32 y.me)).setCell ⟨A, 6, none⟩ (.int .i64 y.si)).setCell ⟨A, 7, none⟩ (.int .i64 y.ty)).setCell ⟨A, 8, none⟩ (.int .i64 y.pr)).setCell ⟨A, 9, none⟩ (.int .u64 y.qt)).setCell ⟨A, 10, none⟩ (.int .u64 y.pe)).setCell ⟨A, 11, none⟩ (.int .i64 y.re)) A 12 _ 39 (.int .i64 y.co) h12
  refine ⟨_, rfl, ⟨?_, fun b hb => ?_, by simp, fun B W0 hb hB => ?_⟩⟩
  · rw [h13]
    simp [Evt.v, eV]
  · rw [heap_setCell_other _ _ _ _ (by exact hb), heap_setCell_other _ _ _ _ (by exact hb), heap_setCell_other _ _ _ _ (by exact hb), heap_setCell_other _ _ _ _ (by exact hb), heap_setCell_other _ _ _ _ (by exact hb), heap_setCell_other _ _ _ _ (by exact hb), heap_setCell_other _ _ _ _ (by exact hb), heap_setCell_other _ _ _ _ (by exact hb), heap_setCell_other _ _ _ _ (by exact hb), heap_setCell_other _ _ _ _ (by exact hb), heap_setCell_other _ _ _ _ (by exact hb), heap_setCell_other _ _ _ _ (by exact hb), heap_setCell_other _ _ _ _ (by exact hb)]
  · exact (((((((((((((hb.setCell (by exact hB) _).setCell (by exact hB) _).setCell (by exact hB) _).setCell (by exact hB) _).setCell (by exact hB) _).setCell (by exact hB) _).setCell (by exact hB) _).setCell (by exact hB) _).setCell (by exact hB) _).setCell (by exact hB) _).setCell (by exact hB) _).setCell (by exact hB) _).setCell (by exact hB) _)

theorem VaE.next {w w1 w2 W3 W4 : World} {x : Evt} {k : Int} {qb qo : Nat} {L : List Int} {A j : Nat} {v v' : Value} {c : Int} (h : VaE w x k (some ⟨qb, qo, none⟩) L A (A + 1) j v w1) (hb : Below w1.heap.size w1 w2) (hs : St w2 A 39 (agnE x (L.take (j + 1))).v W3)
    (hg : (W3.alloc (.cells #[.int .u64 c] 22)).grownBy W4 v.ownBlock) (ho : W4.ownsRow (A + 1) 22 1 v' (j + 1) (uv ((L.take (j + 1)).map x.f))) (hWA : w.heap.size < A) (hq : qb < A) (hgd : (L.take (j + 1)).all (goodE x) = true) : VaE w x k (some ⟨qb, qo, none⟩) L A (A + 1) (j + 1) v' W4 := by
  have hown : ∀ b, b < A + 1 → some b ≠ v.ownBlock := fun b hlt e => by
    have := (h.o.lt b e.symm).1
    omega
  have h2 := h.below hb
  have hrow : ∀ b o', b < A + 1 → (W3.alloc (.cells #[.int .u64 c] 22)).heap[b]? = some o' → W4.heap[b]? = some o' := fun b o' hlt e => by
    rw [hg.block b (row_lt e) (hown b hlt)]
    exact e
  refine ⟨hrow _ _ (by omega) (row_on ((hs.oth _ (by omega)).trans h2.i) (ball _ _)), hrow _ _ (by omega) (row_on hs.row (ball _ _)), ?_, ho, ?_, ?_, hgd⟩
  · intro i hi
    obtain ⟨b, o', e, c0, c1, c2, c3⟩ := h2.s i hi
    obtain ⟨rfl, rfl⟩ := addr_inj e
    have hc : ∀ j u, w2.cell? ⟨qb, j, none⟩ = some u → W4.cell? ⟨qb, j, none⟩ = some u := fun j u hu => by
      have h3 := hs.cell (b := qb) (by omega) hu
      have h4 := ((ball W3 (.cells #[.int .u64 c] 22)).cell (cell_lt h3)).trans h3
      have h5 := hg.block qb (cell_lt h4) (hown qb (by omega))
      unfold World.cell? at h4 ⊢
      simp only [h5]
      exact h4
    exact ⟨qb, qo, rfl, hc _ _ c0, hc _ _ c1, hc _ _ c2, hc _ _ c3⟩
  · refine (btr (hs.bel _ _ h2.bel (by omega)) (ball _ _)).grown hg ?_ (fun i hi => ?_)
    · have := h2.bel.size
      have e3 := hs.siz
      simp
      omega
    · have := (h.o.lt i hi).1
      omega
  · have e3 := hs.siz
    have e4 := hg.size
    have := h2.bs
    simp at e4
    omega
def ValE (x : Evt) (w : World) (e : Ending) (w' : World) : Prop := Below w.heap.size w w' ∧
  ((¬ ((tagsL x.k).all (goodE x) = true ∧ (agnE x (tagsL x.k)).v = x.v) ∧ e = .returned (.tuple #[.slice none 0 0, .int .i64 40])) ∨
   (((tagsL x.k).all (goodE x) = true ∧ (agnE x (tagsL x.k)).v = x.v) ∧ ∃ p cp, e = .returned (.tuple #[.slice p (tagsL x.k).length cp, .int .i64 0]) ∧ Su w' p ((tagsL x.k).map x.f)))
set_option maxHeartbeats 4000000 in
set_option maxRecDepth 100000 in
theorem valuesE_any (x : Evt) (hx : x.Ok) (w : World) (h0 : 1 ≤ x.kd) (h5 : x.kd ≤ 5) :
    Calls Try.prog 27 #[.agg x.v] w fun e w' => ValE x w e w' := by
  have hk : x.k = 64 + x.kd := by unfold Evt.k; rw [if_pos ⟨h0, h5⟩]
  have FA := hid (fun w => told_any x.kd h0 h5 w)
  have VA := hid (fun t ht w => valueE_any x hx t ht w)
  have HIT := hid (fun t ht => ev_tag (t := t) h0 h5 ht)
  have hlen := tags_len (64 + x.kd)
  have hpos : 0 < (tagsL (64 + x.kd)).length := by
    obtain e | e | e | e | e : x.kd = 1 ∨ x.kd = 2 ∨ x.kd = 3 ∨ x.kd = 4 ∨ x.kd = 5 := by omega
    all_goals (rw [e]; simp [tagsL])
  have HMN := hid most_nn
  have HI := hid (show (w.alloc (.cells x.v 39)).heap[w.heap.size]? = some (.cells x.v 39 (0, 0)) from heap_alloc_new _ _)
  obtain ⟨k, hk2⟩ : ∃ k, 64 + x.kd = k := ⟨_, rfl⟩
  have HK := hid (hk.trans hk2)
  unfold FldP at FA
  rw [hk2] at FA HIT hlen hpos
  clear hk hk2 h0 h5 hx
  obtain ⟨L, hL⟩ : ∃ l, tagsL k = l := ⟨_, rfl⟩
  rw [hL] at HIT hlen FA hpos
  have HP := hid (show ∀ e w', (Below w.heap.size w w' ∧
    ((¬ (L.all (goodE x) = true ∧ (agnE x L).v = x.v) ∧ e = .returned (.tuple #[.slice none 0 0, .int .i64 40])) ∨
     ((L.all (goodE x) = true ∧ (agnE x L).v = x.v) ∧ ∃ p cp, e = .returned (.tuple #[.slice p L.length cp, .int .i64 0]) ∧ Su w' p (L.map x.f)))) → ValE x w e w' by
    intro e w' h
    unfold ValE
    rw [HK.out, hL]
    exact h)
  have hne : ((L.length : Int) == 0) = false := by
    have : ¬ (L.length : Int) = 0 := by omega
    simpa using this
  clear hL
  unfold Evt.v eV at HI
  unfold Evt.v eV
  go_enter Try.func27, Try.ntmps27
  go_wp2_with (first | (go_at_call 28; refine (FA.out _).mono ?_; rintro e w4 ⟨q, cap, rfl, hS, hb⟩; have HB3 := hid hb; have HS3 := hid hS; clear hb hS; refine Hid.out ?_))
  have k0 : w4.cell? ⟨w.heap.size, 1, none⟩ = some (.int .i64 x.kd) := row_cell (row_on HI.out HB3.out) 1
  have HI5 := hid (show (w4.alloc (.cells (bareE x.kd).v 39)).heap[w.heap.size]? = some (.cells x.v 39 (0, 0)) from row_on (row_on HI.out HB3.out) (ball _ _))
  have HBW5 := hid (show Below w.heap.size w (w4.alloc (.cells (bareE x.kd).v 39)) from btr (btr (ball _ _) HB3.out) (ball _ _))
  have HS5 := hid (show Sf (w4.alloc (.cells (bareE x.kd).v 39)) q k L from HS3.out.on (ball _ _))
  have HQ := hid (show 0 < L.length → ∀ b o, q = some ⟨b, o, none⟩ → b < w4.heap.size from fun h0 b o e => by
    obtain ⟨b', o', e', hc, _⟩ := HS3.out 0 h0
    rw [e'] at e
    simp at e
    rw [← e.1]
    exact cell_lt hc)
  have HWA := hid (show w.heap.size < w4.heap.size from row_lt (row_on HI.out HB3.out))
  have PK := hid (show VaE w x k q L w4.heap.size (w4.heap.size + 1) 0 (.slice none 0 0) (w4.alloc (.cells (bareE x.kd).v 39)) from ⟨HI5.out, heap_alloc_new _ _, HS5.out, by simpa [uv] using World.ownsRow_nil _ _ 22 1, HBW5.out, by simp, by simp⟩)
  clear HI HB3 HS3 HI5 HBW5 HS5 FA
  refine hid ?_
  go_wp2
  unfold Evt.v eV at PK
  obtain ⟨W5, hW5⟩ : ∃ y, w4.alloc (.cells #[.int .u64 0, .int .i64 x.kd, .int .u64 0, .int .u64 0, .int .u64 0, .int .u32 0, .int .i64 0, .int .i64 0, .int .i64 0, .int .u64 0, .int .u64 0, .int .i64 0, .int .i64 0] 39) = y := ⟨_, rfl⟩
  have PK2 := hid (show VaE w x k q L w4.heap.size (w4.heap.size + 1) 0 (.slice none 0 0) W5 from hW5 ▸ PK.out)
  obtain ⟨A, hA⟩ : ∃ y, w4.heap.size = y := ⟨_, rfl⟩
  rw [hA] at PK2
  rw [hA] at HQ HWA
  rw [hW5, hA]
  clear hW5 hA PK k0
  go_loopw [6, 7] (fun v iv wr => ∃ j : Nat, j ≤ L.length ∧ iv = .int .i64 j ∧ VaE w x k q L A (A + 1) j v wr) (fun _ iv _ => L.length - (intOf iv).toNat)
  case atStart => exact ⟨0, Nat.zero_le _, rfl, PK2.out⟩
  case round =>
    obtain ⟨j, hj, rfl, hpk⟩ := hrel
    have PJ := hid hpk
    clear hpk PK2
    by_cases hjl : j < L.length
    · have hjl' : (j : Int) < (L.length : Int) := by omega
      have hj0 : (0 : Int) ≤ (j : Int) := by omega
      obtain ⟨qb, qo, rfl, f0, _, _, _⟩ := PJ.out.s j hjl
      have HAG := hid (agnE_step x L j hjl)
      have HTK := hid (List.take_succ_eq_append_getElem hjl)
      have HT := hid (HIT.out L[j] (List.getElem_mem hjl))
      have HGF := hid (show goodE x L[j] = false → L.all (goodE x) = false from fun h => by
        rw [List.all_eq_false]
        exact ⟨L[j], List.getElem_mem hjl, by simp [h]⟩)
      obtain ⟨t, ht⟩ : ∃ t, L[j] = t := ⟨_, rfl⟩
      rw [ht] at f0 HAG HT HTK HGF
      have VL := hid (fun w => VA.out t HT.out w)
      obtain ⟨c0, c1, c2, c3, c4, c5, c6, c7, c8, c9, c10, c11, c12⟩ := cells_E PJ.out.i
      unfold Evt.v eV at VL
      have WI := hid (fun w => withE_any (agnE x (L.take j)) t (x.f t) HT.out w)
      unfold Evt.v eV at WI
      cases hok : x.okV t with
      | false =>
        rw [hok] at VL
        go_wp2
        go_region_with (first | (go_at_call 37; refine (VL.out wr.drew).mono ?_; rintro e w1 ⟨rfl, hb⟩; have HB1 := hid hb; clear hb))
        all_goals
          have P1 := hid (PJ.out.drew.below (w' := w1) HB1.out)
          obtain ⟨_, _, he1, g0, g1, _, _⟩ := P1.out.s j hjl
          obtain ⟨rfl, rfl⟩ := addr_inj he1
          rw [ht] at g0 g1
          clear HB1 he1 c0 c1 c2 c3 c4 c5 c6 c7 c8 c9 c10 c11 c12 f0

          go_wp2
          go_ret2
          exact HP.out _ _ ⟨P1.out.bel, Or.inl ⟨bad_of (HGF.out (by simp [goodE, hok])), rfl⟩⟩

      | true =>
        rw [hok] at VL
        by_cases hm0 : 0 < most t
        · by_cases hle : x.f t ≤ most t
          · have hgd : goodE x t = true := by simp [goodE, hok, hle]
            go_wp2
            go_region_with (first | (go_at_call 37; refine (VL.out wr.drew).mono ?_; rintro e w1 ⟨rfl, hb⟩; have HB1 := hid hb; clear hb))
            all_goals
              have P1 := hid (PJ.out.drew.below (w' := w1) HB1.out)
              obtain ⟨_, _, he1, g0, g1, _, _⟩ := P1.out.s j hjl
              obtain ⟨rfl, rfl⟩ := addr_inj he1
              rw [ht] at g0 g1
              clear HB1 he1 c0 c1 c2 c3 c4 c5 c6 c7 c8 c9 c10 c11 c12 f0

              obtain ⟨d0, d1, d2, d3, d4, d5, d6, d7, d8, d9, d10, d11, d12⟩ := cells_E P1.out.a
              go_wp2
              go_region_with (first | (go_at_call 31; refine (WI.out w1.drew).mono ?_; rintro e w2 ⟨rfl, hb⟩; have HR2 := hid (show w2.heap[A]? = some (.cells (agnE x (L.take j)).v 39 (0, 0)) from row_on (w := w1.drew) P1.out.a hb); obtain ⟨e0, e1, e2, e3, e4, e5, e6, e7, e8, e9, e10, e11, e12⟩ := cells_E HR2.out; obtain ⟨z0, z1, z2, z3, z4, z5, z6, z7, z8, z9, z10, z11, z12⟩ := frz_E HR2.out; have HB2 := hid hb; clear hb))
              all_goals
                obtain ⟨W3, hW3, hST⟩ := st13 w2 A _ ((agnE x (L.take j)).set t (x.f t)) HR2.out
                rw [← HAG.out] at hST
                have HST := hid hST
                have HO3 := hid ((P1.out.drew.below HB2.out).o.kept hST.grown (Or.inr (fun e => by have := (P1.out.o.lt A e).1; omega)))
                have hB3 : A + 1 ≤ W3.heap.size := by have h1 := (P1.out.drew.below HB2.out).bs; have h2 := hST.siz; omega
                clear hST z0 z1 z2 z3 z4 z5 z6 z7 z8 z9 z10 z11 z12 e0 e1 e2 e3 e4 e5 e6 e7 e8 e9 e10 e11 e12 d0 d1 d2 d3 d4 d5 d6 d7 d8 d9 d10 d11 d12 HR2
                rw [hW3]
                clear hW3
                go_wp2_with (first | (at_builtin; refine own_app W3 (by rfl) (.tmp 62) (.tmp 64) (by rfl) (A + 1) _ _ j (by rfl) HO3.out (x.f t) (by rfl) (by omega) hB3 ?_; intro v4 w5 ho5 hg5; have HO5 := hid ho5; have HG5 := hid hg5; clear ho5 hg5; refine Hid.out ?_))
                have PN := hid (show VaE w x k (some ⟨qb, qo, none⟩) L A (A + 1) (j + 1) v4 w5 from P1.out.drew.next HB2.out HST.out HG5.out (by rw [HTK.out]; simpa [List.map_append] using HO5.out) HWA.out (HQ.out (by omega) _ _ rfl) (by rw [HTK.out, List.all_append, P1.out.g]; simp [hgd]))
                clear HO5 HG5 HST HO3 P1 HB2
                refine hid ?_
                go_wp2
                go_roundw
                case rel => exact ⟨j + 1, by omega, by go_num, PN.out⟩
                case measure => simp [intOf]; omega

          · have hlt : most t < x.f t := by omega
            go_wp2
            go_region_with (first | (go_at_call 37; refine (VL.out wr.drew).mono ?_; rintro e w1 ⟨rfl, hb⟩; have HB1 := hid hb; clear hb))
            all_goals
              have P1 := hid (PJ.out.drew.below (w' := w1) HB1.out)
              obtain ⟨_, _, he1, g0, g1, _, _⟩ := P1.out.s j hjl
              obtain ⟨rfl, rfl⟩ := addr_inj he1
              rw [ht] at g0 g1
              clear HB1 he1 c0 c1 c2 c3 c4 c5 c6 c7 c8 c9 c10 c11 c12 f0

              go_wp2
              go_ret2
              exact HP.out _ _ ⟨P1.out.bel, Or.inl ⟨bad_of (HGF.out (by simp only [goodE, hok, Bool.true_and, Bool.or_eq_false_iff, decide_eq_false_iff_not]; omega)), rfl⟩⟩

        · have hgd : goodE x t = true := by simp only [goodE, hok, Bool.true_and, Bool.or_eq_true, decide_eq_true_eq]; exact Or.inl (by have := HMN.out t; omega)
          go_wp2
          go_region_with (first | (go_at_call 37; refine (VL.out wr.drew).mono ?_; rintro e w1 ⟨rfl, hb⟩; have HB1 := hid hb; clear hb))
          all_goals
            have P1 := hid (PJ.out.drew.below (w' := w1) HB1.out)
            obtain ⟨_, _, he1, g0, g1, _, _⟩ := P1.out.s j hjl
            obtain ⟨rfl, rfl⟩ := addr_inj he1
            rw [ht] at g0 g1
            clear HB1 he1 c0 c1 c2 c3 c4 c5 c6 c7 c8 c9 c10 c11 c12 f0

            obtain ⟨d0, d1, d2, d3, d4, d5, d6, d7, d8, d9, d10, d11, d12⟩ := cells_E P1.out.a
            go_wp2
            go_region_with (first | (go_at_call 31; refine (WI.out w1.drew).mono ?_; rintro e w2 ⟨rfl, hb⟩; have HR2 := hid (show w2.heap[A]? = some (.cells (agnE x (L.take j)).v 39 (0, 0)) from row_on (w := w1.drew) P1.out.a hb); obtain ⟨e0, e1, e2, e3, e4, e5, e6, e7, e8, e9, e10, e11, e12⟩ := cells_E HR2.out; obtain ⟨z0, z1, z2, z3, z4, z5, z6, z7, z8, z9, z10, z11, z12⟩ := frz_E HR2.out; have HB2 := hid hb; clear hb))
            all_goals
              obtain ⟨W3, hW3, hST⟩ := st13 w2 A _ ((agnE x (L.take j)).set t (x.f t)) HR2.out
              rw [← HAG.out] at hST
              have HST := hid hST
              have HO3 := hid ((P1.out.drew.below HB2.out).o.kept hST.grown (Or.inr (fun e => by have := (P1.out.o.lt A e).1; omega)))
              have hB3 : A + 1 ≤ W3.heap.size := by have h1 := (P1.out.drew.below HB2.out).bs; have h2 := hST.siz; omega
              clear hST z0 z1 z2 z3 z4 z5 z6 z7 z8 z9 z10 z11 z12 e0 e1 e2 e3 e4 e5 e6 e7 e8 e9 e10 e11 e12 d0 d1 d2 d3 d4 d5 d6 d7 d8 d9 d10 d11 d12 HR2
              rw [hW3]
              clear hW3
              go_wp2_with (first | (at_builtin; refine own_app W3 (by rfl) (.tmp 62) (.tmp 64) (by rfl) (A + 1) _ _ j (by rfl) HO3.out (x.f t) (by rfl) (by omega) hB3 ?_; intro v4 w5 ho5 hg5; have HO5 := hid ho5; have HG5 := hid hg5; clear ho5 hg5; refine Hid.out ?_))
              have PN := hid (show VaE w x k (some ⟨qb, qo, none⟩) L A (A + 1) (j + 1) v4 w5 from P1.out.drew.next HB2.out HST.out HG5.out (by rw [HTK.out]; simpa [List.map_append] using HO5.out) HWA.out (HQ.out (by omega) _ _ rfl) (by rw [HTK.out, List.all_append, P1.out.g]; simp [hgd]))
              clear HO5 HG5 HST HO3 P1 HB2
              refine hid ?_
              go_wp2
              go_roundw
              case rel => exact ⟨j + 1, by omega, by go_num, PN.out⟩
              case measure => simp [intOf]; omega

    · have hje : j = L.length := by omega
      subst hje
      have hp := PJ.out
      obtain ⟨ha, hg, ho⟩ := And.intro hp.a (And.intro hp.g hp.o)
      rw [List.take_length (l := L)] at ha hg ho
      have HG := hid hg
      have HO := hid ho
      have HBE := hid hp.bel
      obtain ⟨c0, c1, c2, c3, c4, c5, c6, c7, c8, c9, c10, c11, c12⟩ := cells_E hp.i
      obtain ⟨d0, d1, d2, d3, d4, d5, d6, d7, d8, d9, d10, d11, d12⟩ := cells_E ha
      clear hp hg ho ha PJ
      by_cases hto : (agnE x L).v = x.v
      · have q := eqE_yes (agnE x L).sq (agnE x L).kd (agnE x L).id (agnE x L).ot (agnE x L).tg (agnE x L).me (agnE x L).si (agnE x L).ty (agnE x L).pr (agnE x L).qt (agnE x L).pe (agnE x L).re (agnE x L).co x.sq x.kd x.id x.ot x.tg x.me x.si x.ty x.pr x.qt x.pe x.re x.co hto
        unfold eV at q
        have HTO := hid hto
        clear hto
        go_wp2
        go_ret2
        obtain ⟨p, cp, hv, hsu⟩ := own_su HO.out
        refine HP.out _ _ ⟨HBE.out, Or.inr ⟨⟨HG.out, HTO.out⟩, p, cp, ?_, hsu⟩⟩
        simp [hv]
      · have q := eqE_no (agnE x L).sq (agnE x L).kd (agnE x L).id (agnE x L).ot (agnE x L).tg (agnE x L).me (agnE x L).si (agnE x L).ty (agnE x L).pr (agnE x L).qt (agnE x L).pe (agnE x L).re (agnE x L).co x.sq x.kd x.id x.ot x.tg x.me x.si x.ty x.pr x.qt x.pe x.re x.co hto
        unfold eV at q
        have HTO := hid hto
        clear hto
        go_wp2
        go_ret2
        exact HP.out _ _ ⟨HBE.out, Or.inl ⟨fun h => HTO.out h.2, rfl⟩⟩
end Go.Proofs.Ytnhipamajelalaa
