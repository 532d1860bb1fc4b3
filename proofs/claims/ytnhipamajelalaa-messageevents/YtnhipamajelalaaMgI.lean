/-
  The document's values.
-/
import Derived.Test.YtnhipamajelalaaMgH
namespace Go.Proofs.Ytnhipamajelalaa
open Go.RowKit Go.Maps Go.Deep Go.Lib
set_option linter.unusedVariables false
set_option linter.unusedSimpArgs false

def good (x : Inp) (t : Int) : Bool := x.okV t && (decide (most t = 0) || decide (x.f t ≤ most t))
def agn (x : Inp) (k : Int) (L : List Int) : Inp := L.foldl (fun y t => y.set t (x.f t)) (bareI k)
theorem agn_step (x : Inp) (k : Int) (L : List Int) (j : Nat) (h : j < L.length) : agn x k (L.take (j + 1)) = (agn x k (L.take j)).set L[j] (x.f L[j]) := by
  unfold agn
  rw [List.take_succ_eq_append_getElem h, List.foldl_append]
  rfl
theorem grown_of {w w' : World} (hb : Below w.heap.size w w') : w.grownBy w' none := ⟨hb.os, hb.tape, hb.output, hb.size, fun i hi _ => hb.block i hi⟩
theorem most_nn (t : Int) : 0 ≤ most t := by
  unfold most bnd
  repeat' split
  all_goals omega
structure VaR (w : World) (x : Inp) (k : Int) (q : Option Addr) (L : List Int) (A B j : Nat) (v : Value) (wr : World) : Prop where
  i : wr.heap[w.heap.size]? = some (.cells x.v 27 (0, 0))
  a : wr.heap[A]? = some (.cells (agn x k (L.take j)).v 27 (0, 0))
  s : Sf wr q k L
  o : wr.ownsRow B 22 1 v j (uv ((L.take j).map x.f))
  bel : Below w.heap.size w wr
  bs : B ≤ wr.heap.size
  g : (L.take j).all (good x) = true
theorem VaR.below {w wr w' : World} {x : Inp} {k : Int} {q : Option Addr} {L : List Int} {A B j : Nat} {v : Value} (h : VaR w x k q L A B j v wr) (hb : Below wr.heap.size wr w') : VaR w x k q L A B j v w' :=
  ⟨row_on h.i hb, row_on h.a hb, h.s.on hb, h.o.kept (grown_of hb) (by cases v.ownBlock <;> simp), btr h.bel hb, Nat.le_trans h.bs hb.size, h.g⟩
theorem VaR.drew {w wr : World} {x : Inp} {k : Int} {q : Option Addr} {L : List Int} {A B j : Nat} {v : Value} (h : VaR w x k q L A B j v wr) : VaR w x k q L A B j v wr.drew := h.below ⟨rfl, rfl, rfl, Nat.le_refl _, fun _ _ => rfl⟩
theorem bad_of {l : List Int} {g : Int → Bool} {p : Prop} (h : l.all g = false) : ¬ (l.all g = true ∧ p) := fun e => by rw [h] at e; exact absurd e.1 (by simp)
theorem frz_I {w : World} {g : Nat} {cs : Array Value} (h : w.heap[g]? = some (.cells cs 27 (0, 0))) : w.frozen? ⟨g, 0, none⟩ = false ∧ w.frozen? ⟨g, 1, none⟩ = false ∧ w.frozen? ⟨g, 2, none⟩ = false ∧ w.frozen? ⟨g, 3, none⟩ = false ∧ w.frozen? ⟨g, 4, none⟩ = false ∧ w.frozen? ⟨g, 5, none⟩ = false ∧ w.frozen? ⟨g, 6, none⟩ = false ∧ w.frozen? ⟨g, 7, none⟩ = false ∧ w.frozen? ⟨g, 8, none⟩ = false ∧ w.frozen? ⟨g, 9, none⟩ = false ∧ w.frozen? ⟨g, 10, none⟩ = false :=
  ⟨frozen_of_row w g 0 _ 27 h, frozen_of_row w g 1 _ 27 h, frozen_of_row w g 2 _ 27 h, frozen_of_row w g 3 _ 27 h, frozen_of_row w g 4 _ 27 h, frozen_of_row w g 5 _ 27 h, frozen_of_row w g 6 _ 27 h, frozen_of_row w g 7 _ 27 h, frozen_of_row w g 8 _ 27 h, frozen_of_row w g 9 _ 27 h, frozen_of_row w g 10 _ 27 h⟩
theorem addr_inj {b o b' o' : Nat} (h : some (⟨b, o, none⟩ : Addr) = some ⟨b', o', none⟩) : b = b' ∧ o = o' := by simpa using h
def ValP (x : Inp) (w : World) (e : Ending) (w' : World) : Prop := Below w.heap.size w w' ∧
  ((¬ ((tagsL x.k).all (good x) = true ∧ (agn x x.k (tagsL x.k)).v = x.v) ∧ e = .returned (.tuple #[.slice none 0 0, .int .i64 40])) ∨
   (((tagsL x.k).all (good x) = true ∧ (agn x x.k (tagsL x.k)).v = x.v) ∧ ∃ p cp, e = .returned (.tuple #[.slice p (tagsL x.k).length cp, .int .i64 0]) ∧ Su w' p ((tagsL x.k).map x.f)))
theorem st11 (w : World) (A : Nat) (o y : Inp) (h : w.heap[A]? = some (.cells o.v 27 (0, 0))) : ∃ W, (((((((((((w.setCell ⟨A, 0, none⟩ (.int .i64 y.ki)).setCell ⟨A, 1, none⟩ (.int .i64 y.co)).setCell ⟨A, 2, none⟩ (.int .u64 y.id)).setCell ⟨A, 3, none⟩ (.int .u64 y.tg)).setCell ⟨A, 4, none⟩ (.int .u32 y.me)).setCell ⟨A, 5, none⟩ (.int .i64 y.si)).setCell ⟨A, 6, none⟩ (.int .i64 y.ty)).setCell ⟨A, 7, none⟩ (.int .i64 y.pr)).setCell ⟨A, 8, none⟩ (.int .u64 y.qt)).setCell ⟨A, 9, none⟩ (.int .u64 y.pe)).setCell ⟨A, 10, none⟩ (.int .i64 y.en)) = W ∧ St w A 27 y.v W := by
  have h1 := heap_setCell_same w A 0 _ 27 (.int .i64 y.ki) h
  have h2 := heap_setCell_same (w.setCell ⟨A, 0, none⟩ (.int .i64 y.ki)) A 1 _ 27 (.int .i64 y.co) h1
  have h3 := heap_setCell_same ((w.setCell ⟨A, 0, none⟩ (.int .i64 y.ki)).setCell ⟨A, 1, none⟩ (.int .i64 y.co)) A 2 _ 27 (.int .u64 y.id) h2
  have h4 := heap_setCell_same (((w.setCell ⟨A, 0, none⟩ (.int .i64 y.ki)).setCell ⟨A, 1, none⟩ (.int .i64 y.co)).setCell ⟨A, 2, none⟩ (.int .u64 y.id)) A 3 _ 27 (.int .u64 y.tg) h3
  have h5 := heap_setCell_same ((((w.setCell ⟨A, 0, none⟩ (.int .i64 y.ki)).setCell ⟨A, 1, none⟩ (.int .i64 y.co)).setCell ⟨A, 2, none⟩ (.int .u64 y.id)).setCell ⟨A, 3, none⟩ (.int .u64 y.tg)) A 4 _ 27 (.int .u32 y.me) h4
  have h6 := heap_setCell_same (((((w.setCell ⟨A, 0, none⟩ (.int .i64 y.ki)).setCell ⟨A, 1, none⟩ (.int .i64 y.co)).setCell ⟨A, 2, none⟩ (.int .u64 y.id)).setCell ⟨A, 3, none⟩ (.int .u64 y.tg)).setCell ⟨A, 4, none⟩ (.int .u32 y.me)) A 5 _ 27 (.int .i64 y.si) h5
  have h7 := heap_setCell_same ((((((w.setCell ⟨A, 0, none⟩ (.int .i64 y.ki)).setCell ⟨A, 1, none⟩ (.int .i64 y.co)).setCell ⟨A, 2, none⟩ (.int .u64 y.id)).setCell ⟨A, 3, none⟩ (.int .u64 y.tg)).setCell ⟨A, 4, none⟩ (.int .u32 y.me)).setCell ⟨A, 5, none⟩ (.int .i64 y.si)) A 6 _ 27 (.int .i64 y.ty) h6
  have h8 := heap_setCell_same (((((((w.setCell ⟨A, 0, none⟩ (.int .i64 y.ki)).setCell ⟨A, 1, none⟩ (.int .i64 y.co)).setCell ⟨A, 2, none⟩ (.int .u64 y.id)).setCell ⟨A, 3, none⟩ (.int .u64 y.tg)).setCell ⟨A, 4, none⟩ (.int .u32 y.me)).setCell ⟨A, 5, none⟩ (.int .i64 y.si)).setCell ⟨A, 6, none⟩ (.int .i64 y.ty)) A 7 _ 27 (.int .i64 y.pr) h7
  have h9 := heap_setCell_same ((((((((w.setCell ⟨A, 0, none⟩ (.int .i64 y.ki)).setCell ⟨A, 1, none⟩ (.int .i64 y.co)).setCell ⟨A, 2, none⟩ (.int .u64 y.id)).setCell ⟨A, 3, none⟩ (.int .u64 y.tg)).setCell ⟨A, 4, none⟩ (.int .u32 y.me)).setCell ⟨A, 5, none⟩ (.int .i64 y.si)).setCell ⟨A, 6, none⟩ (.int .i64 y.ty)).setCell ⟨A, 7, none⟩ (.int .i64 y.pr)) A 8 _ 27 (.int .u64 y.qt) h8
  have h10 := heap_setCell_same (((((((((w.setCell ⟨A, 0, none⟩ (.int .i64 y.ki)).setCell ⟨A, 1, none⟩ (.int .i64 y.co)).setCell ⟨A, 2, none⟩ (.int .u64 y.id)).setCell ⟨A, 3, none⟩ (.int .u64 y.tg)).setCell ⟨A, 4, none⟩ (.int .u32 y.me)).setCell ⟨A, 5, none⟩ (.int .i64 y.si)).setCell ⟨A, 6, none⟩ (.int .i64 y.ty)).setCell ⟨A, 7, none⟩ (.int .i64 y.pr)).setCell ⟨A, 8, none⟩ (.int .u64 y.qt)) A 9 _ 27 (.int .u64 y.pe) h9
  have h11 := heap_setCell_same ((((((((((w.setCell ⟨A, 0, none⟩ (.int .i64 y.ki)).setCell ⟨A, 1, none⟩ (.int .i64 y.co)).setCell ⟨A, 2, none⟩ (.int .u64 y.id)).setCell ⟨A, 3, none⟩ (.int .u64 y.tg)).setCell ⟨A, 4, none⟩ (.int .u32 y.me)).setCell ⟨A, 5, none⟩ (.int .i64 y.si)).setCell ⟨A, 6, none⟩ (.int .i64 y.ty)).setCell ⟨A, 7, none⟩ (.int .i64 y.pr)).setCell ⟨A, 8, none⟩ (.int .u64 y.qt)).setCell ⟨A, 9, none⟩ (.int .u64 y.pe)) A 10 _ 27 (.int .i64 y.en) h10
  refine ⟨_, rfl, ⟨?_, fun b hb => ?_, by simp, fun B W0 hb hB => ?_⟩⟩
  · rw [h11]
    simp [Inp.v, iV]
  · rw [heap_setCell_other _ _ _ _ (by exact hb), heap_setCell_other _ _ _ _ (by exact hb), heap_setCell_other _ _ _ _ (by exact hb), heap_setCell_other _ _ _ _ (by exact hb), heap_setCell_other _ _ _ _ (by exact hb), heap_setCell_other _ _ _ _ (by exact hb), heap_setCell_other _ _ _ _ (by exact hb), heap_setCell_other _ _ _ _ (by exact hb), heap_setCell_other _ _ _ _ (by exact hb), heap_setCell_other _ _ _ _ (by exact hb), heap_setCell_other _ _ _ _ (by exact hb)]
  · exact (((((((((((hb.setCell (by exact hB) _).setCell (by exact hB) _).setCell (by exact hB) _).setCell (by exact hB) _).setCell (by exact hB) _).setCell (by exact hB) _).setCell (by exact hB) _).setCell (by exact hB) _).setCell (by exact hB) _).setCell (by exact hB) _).setCell (by exact hB) _)
theorem St.grown {w w' : World} {g : Nat} {t : TypeId} {cs : Array Value} (h : St w g t cs w') : w.grownBy w' (some g) := by
  have hb := h.bel g w (Below.refl _ _) (Nat.le_refl _)
  exact ⟨hb.os, hb.tape, hb.output, by rw [h.siz]; exact Nat.le_refl _, fun i _ hi => h.oth i (fun e => hi (by rw [e]))⟩
theorem info22all : (Try.prog.info? 22).map (fun i => (i.zero, i.size, i.bytes)) = some (some (.int .u64 0), 1, 8) := by kernel_rfl
theorem own_app (w0 : World) {ops : Array Oper} {rest : List Oper} {o : Oper} {a : Act} {Q : Exit → Act → World → Prop} (hgd : o.guard = none) (sl xx : Operand)
    (ho : o.op = .call { callee := .builtin .append, args := #[sl, xx], argTypes := #[50, 50] }) (B : Nat) (v : Value) (l : List Int) (n : Nat) (hs : a.eval sl = v) (hown : w0.ownsRow B 22 1 v n (uv l)) (c : Int) (hx : a.eval xx = .slice (some ⟨w0.heap.size, 0, none⟩) 1 1) (hl : n < 100) (hB : B ≤ w0.heap.size)
    (h : ∀ v' w', w'.ownsRow B 22 1 v' (n + 1) (uv (l ++ [c])) → (w0.alloc (.cells #[.int .u64 c] 22)).grownBy w' v.ownBlock → wpList Try.prog ops Q rest (a.put o.dst v') w') : wpList Try.prog ops Q (o :: rest) a (w0.alloc (.cells #[.int .u64 c] 22)) := by
  obtain ⟨i0, hi, hz0, hz1, hz2⟩ := info_parts info22all
  refine wpList_append_own _ hgd sl xx 50 ho B 22 i0 (.int .u64 0) 1 8 Try.underlying50 hi hz0 hz1 hz2 rfl (by decide) v n _ hs (hown.alloc _) ⟨w0.heap.size, 0, none⟩ 1 1 [.int .u64 c] hx rfl (cell_one_new _ _ _) (fun u hu => by simp at hu; subst hu; rfl) (by unfold maxLen; omega) (by omega) (by simp; omega) ?_
  intro v' w' h1 h2 _
  refine h v' w' ?_ h2
  have e : uv (l ++ [c]) = uv l ++ [.int .u64 c] := by simp [uv]
  rw [e]
  exact h1
theorem own_su {w : World} {B n : Nat} {v : Value} {l : List Int} (h : w.ownsRow B 22 1 v n (uv l)) : ∃ p cp, v = .slice p n cp ∧ Su w p l := by
  rcases h.2 with ⟨e, hn⟩ | ⟨g, cap, cur, e, hB, hg, h5, h6, h7, h8⟩
  · refine ⟨none, 0, by rw [e, hn], fun i hi => ?_⟩
    have := h.1
    simp [uv] at this
    omega
  · refine ⟨some ⟨g, 0, none⟩, cap, e, fun i hi => ⟨g, 0, rfl, ?_⟩⟩
    have h9 := h.cells (g := g) (by rw [e]; rfl) i (.int .u64 l[i]) (by simp [uv, hi])
    have hadd : (⟨g, 0, none⟩ : Addr).add i = ⟨g, 0 + i, none⟩ := by unfold Addr.add; split <;> simp_all
    rw [hadd] at h9
    exact h9
theorem VaR.next {w w1 w2 W3 W4 : World} {x : Inp} {k : Int} {qb qo : Nat} {L : List Int} {A j : Nat} {v v' : Value} {c : Int} (h : VaR w x k (some ⟨qb, qo, none⟩) L A (A + 1) j v w1) (hb : Below w1.heap.size w1 w2) (hs : St w2 A 27 (agn x k (L.take (j + 1))).v W3)
    (hg : (W3.alloc (.cells #[.int .u64 c] 22)).grownBy W4 v.ownBlock) (ho : W4.ownsRow (A + 1) 22 1 v' (j + 1) (uv ((L.take (j + 1)).map x.f))) (hWA : w.heap.size < A) (hq : qb < A) (hgd : (L.take (j + 1)).all (good x) = true) : VaR w x k (some ⟨qb, qo, none⟩) L A (A + 1) (j + 1) v' W4 := by
  have hown : ∀ b, b < A + 1 → some b ≠ v.ownBlock := fun b hlt e => by
    have := (h.o.lt b e.symm).1
    omega
  have h2 := h.below hb
  have hrow : ∀ b o', b < A + 1 → (W3.alloc (.cells #[.int .u64 c] 22)).heap[b]? = some o' → W4.heap[b]? = some o' := fun b o' hlt e => by
    rw [hg.block b (row_lt e) (hown b hlt)]
    exact e
  refine ⟨hrow _ _ (by omega) (row_on ((hs.oth _ (by omega)).trans h2.i) (ball _ _)), hrow _ _ (by omega) (row_on hs.row (ball _ _)), ?_, ho, ?_, ?_, hgd⟩
  · intro i hi
    obtain ⟨b, o', e, c0, c1, c2, c3⟩ := h2.s i hi
    obtain ⟨rfl, rfl⟩ := addr_inj e
    have hc : ∀ j u, w2.cell? ⟨qb, j, none⟩ = some u → W4.cell? ⟨qb, j, none⟩ = some u := fun j u hu => by
      have h3 := hs.cell (b := qb) (by omega) hu
      have h4 := ((ball W3 (.cells #[.int .u64 c] 22)).cell (cell_lt h3)).trans h3
      have h5 := hg.block qb (cell_lt h4) (hown qb (by omega))
      unfold World.cell? at h4 ⊢
      simp only [h5]
      exact h4
    exact ⟨qb, qo, rfl, hc _ _ c0, hc _ _ c1, hc _ _ c2, hc _ _ c3⟩
  · refine (btr (hs.bel _ _ h2.bel (by omega)) (ball _ _)).grown hg ?_ (fun i hi => ?_)
    · have := h2.bel.size
      have e3 := hs.siz
      simp
      omega
    · have := (h.o.lt i hi).1
      omega
  · have e3 := hs.siz
    have e4 := hg.size
    have := h2.bs
    simp at e4
    omega

set_option maxHeartbeats 4000000 in
set_option maxRecDepth 100000 in
theorem values_any (x : Inp) (hx : x.Ok) (w : World) (h0 : 1 ≤ x.k) (h4 : x.k ≤ 4) :
    Calls Try.prog 16 #[.agg x.v] w fun e w' => ValP x w e w' := by
  have hne : ¬ x.k = 0 := by omega
  have NA := hid (fun w => name_any x w)
  have FA := hid (fun w => fields_any x.k h0 h4 w)
  have BA := hid (fun w => bare_any x.k w)
  have VA := hid (fun t ht w => value_any x hx t ht w)
  have HIT := hid (fun t ht => in_tag (t := t) h0 h4 ht)
  have hlen := tags_len x.k
  have HMN := hid most_nn
  have HI := hid (show (w.alloc (.cells x.v 27)).heap[w.heap.size]? = some (.cells x.v 27 (0, 0)) from heap_alloc_new _ _)
  obtain ⟨k, hk⟩ : ∃ k, x.k = k := ⟨_, rfl⟩
  rw [hk] at NA FA BA HIT hlen hne
  have HK := hid hk
  clear hk h0 h4 hx
  obtain ⟨L, hL⟩ : ∃ l, tagsL k = l := ⟨_, rfl⟩
  unfold FldP at FA
  rw [hL] at HIT hlen FA
  have HP := hid (show ∀ e w', (Below w.heap.size w w' ∧
    ((¬ (L.all (good x) = true ∧ (agn x k L).v = x.v) ∧ e = .returned (.tuple #[.slice none 0 0, .int .i64 40])) ∨
     ((L.all (good x) = true ∧ (agn x k L).v = x.v) ∧ ∃ p cp, e = .returned (.tuple #[.slice p L.length cp, .int .i64 0]) ∧ Su w' p (L.map x.f)))) → ValP x w e w' by
    intro e w' h
    unfold ValP
    rw [HK.out, hL]
    exact h)
  clear hL
  unfold Inp.v iV at NA HI
  unfold Inp.v iV
  go_enter Try.func16, Try.ntmps16
  go_wp2_with (first | (go_at_call 18; refine (NA.out _).mono ?_; rintro e w2 ⟨rfl, hb⟩; have HB2 := hid hb; clear hb; refine Hid.out ?_))
  have HI2 := hid (row_on HI.out HB2.out)
  have HBW2 := hid (btr (ball _ _) HB2.out)
  clear HI HB2 NA
  refine hid ?_
  go_wp2_with (first | (go_at_call 19; refine (FA.out _).mono ?_; rintro e w3 ⟨q, cap, rfl, hS, hb⟩; have HB3 := hid hb; have HS3 := hid hS; clear hb hS; refine Hid.out ?_))
  have HI3 := hid (row_on HI2.out HB3.out)
  have HBW3 := hid (btr HBW2.out HB3.out)
  clear HI2 HBW2 HB3 FA
  refine hid ?_
  go_wp2_with (first | (go_at_call 23; refine (BA.out _).mono ?_; rintro e w4 ⟨rfl, hb⟩; have HB4 := hid hb; clear hb; refine Hid.out ?_))
  have HI5 := hid (show (w4.alloc (.cells (bareI k).v 27)).heap[w.heap.size]? = some (.cells x.v 27 (0, 0)) from row_on (row_on HI3.out HB4.out) (ball _ _))
  have HBW5 := hid (show Below w.heap.size w (w4.alloc (.cells (bareI k).v 27)) from btr (btr HBW3.out HB4.out) (ball _ _))
  have HS5 := hid (show Sf (w4.alloc (.cells (bareI k).v 27)) q k L from (HS3.out.on HB4.out).on (ball _ _))
  have HQ := hid (show 0 < L.length → ∀ b o, q = some ⟨b, o, none⟩ → b < w4.heap.size from fun h0 b o e => by
    obtain ⟨b', o', e', hc, _⟩ := HS3.out 0 h0
    rw [e'] at e
    simp at e
    rw [← e.1]
    exact Nat.lt_of_lt_of_le (cell_lt hc) HB4.out.size)
  have HWA := hid (show w.heap.size < w4.heap.size from Nat.lt_of_lt_of_le (row_lt HI3.out) HB4.out.size)
  have PK := hid (show VaR w x k q L w4.heap.size (w4.heap.size + 1) 0 (.slice none 0 0) (w4.alloc (.cells (bareI k).v 27)) from ⟨HI5.out, heap_alloc_new _ _, HS5.out, by simpa [uv] using World.ownsRow_nil _ _ 22 1, HBW5.out, by simp, by simp⟩)
  clear HI3 HBW3 HS3 HB4 HI5 HBW5 HS5 BA
  refine hid ?_
  unfold Inp.v iV
  go_wp2
  unfold Inp.v iV at PK
  obtain ⟨W5, hW5⟩ : ∃ y, w4.alloc (.cells #[.int .i64 (bareI k).ki, .int .i64 (bareI k).co, .int .u64 (bareI k).id, .int .u64 (bareI k).tg, .int .u32 (bareI k).me, .int .i64 (bareI k).si, .int .i64 (bareI k).ty, .int .i64 (bareI k).pr, .int .u64 (bareI k).qt, .int .u64 (bareI k).pe, .int .i64 (bareI k).en] 27) = y := ⟨_, rfl⟩
  obtain ⟨A, hA⟩ : ∃ y, w4.heap.size = y := ⟨_, rfl⟩
  rw [hW5, hA] at PK
  rw [hA] at HQ HWA
  rw [hW5, hA]
  clear hW5 hA
  go_loopw [7, 8] (fun v iv wr => ∃ j : Nat, j ≤ L.length ∧ iv = .int .i64 j ∧ VaR w x k q L A (A + 1) j v wr) (fun _ iv _ => L.length - (intOf iv).toNat)
  case atStart => exact ⟨0, Nat.zero_le _, rfl, PK.out⟩
  case round =>
    obtain ⟨j, hj, rfl, hpk⟩ := hrel
    have PJ := hid hpk
    clear hpk PK
    by_cases hjl : j < L.length
    · have hjl' : (j : Int) < (L.length : Int) := by omega
      have hj0 : (0 : Int) ≤ (j : Int) := by omega
      obtain ⟨qb, qo, rfl, f0, _, _, _⟩ := PJ.out.s j hjl
      have HAG := hid (agn_step x k L j hjl)
      have HTK := hid (List.take_succ_eq_append_getElem hjl)
      have HT := hid (HIT.out L[j] (List.getElem_mem hjl))
      have HGF := hid (show good x L[j] = false → L.all (good x) = false from fun h => by
        rw [List.all_eq_false]
        exact ⟨L[j], List.getElem_mem hjl, by simp [h]⟩)
      obtain ⟨t, ht⟩ : ∃ t, L[j] = t := ⟨_, rfl⟩
      rw [ht] at f0 HAG HT HTK HGF
      have VL := hid (fun w => VA.out t HT.out w)
      obtain ⟨c0, c1, c2, c3, c4, c5, c6, c7, c8, c9, c10⟩ := cells_I PJ.out.i
      unfold Inp.v iV at VL
      have WI := hid (fun w => with_any (agn x k (L.take j)) t (x.f t) HT.out w)
      unfold Inp.v iV at WI
      cases hok : x.okV t with
      | false =>
        rw [hok] at VL
        go_wp2
        go_region_with (first | (go_at_call 35; refine (VL.out wr.drew).mono ?_; rintro e w1 ⟨rfl, hb⟩; have HB1 := hid hb; clear hb))
        all_goals
          have P1 := hid (PJ.out.drew.below (w' := w1) HB1.out)
          obtain ⟨_, _, he1, g0, g1, _, _⟩ := P1.out.s j hjl
          obtain ⟨rfl, rfl⟩ := addr_inj he1
          rw [ht] at g0 g1
          clear HB1 he1 c0 c1 c2 c3 c4 c5 c6 c7 c8 c9 c10 f0

          go_wp2
          go_ret2
          exact HP.out _ _ ⟨P1.out.bel, Or.inl ⟨bad_of (HGF.out (by simp [good, hok])), rfl⟩⟩

      | true =>
        rw [hok] at VL
        by_cases hm0 : 0 < most t
        · by_cases hle : x.f t ≤ most t
          · have hgd : good x t = true := by simp [good, hok, hle]
            go_wp2
            go_region_with (first | (go_at_call 35; refine (VL.out wr.drew).mono ?_; rintro e w1 ⟨rfl, hb⟩; have HB1 := hid hb; clear hb))
            all_goals
              have P1 := hid (PJ.out.drew.below (w' := w1) HB1.out)
              obtain ⟨_, _, he1, g0, g1, _, _⟩ := P1.out.s j hjl
              obtain ⟨rfl, rfl⟩ := addr_inj he1
              rw [ht] at g0 g1
              clear HB1 he1 c0 c1 c2 c3 c4 c5 c6 c7 c8 c9 c10 f0

              obtain ⟨d0, d1, d2, d3, d4, d5, d6, d7, d8, d9, d10⟩ := cells_I P1.out.a
              go_wp2
              go_region_with (first | (go_at_call 24; refine (WI.out w1.drew).mono ?_; rintro e w2 ⟨rfl, hb⟩; have HR2 := hid (show w2.heap[A]? = some (.cells (agn x k (L.take j)).v 27 (0, 0)) from row_on (w := w1.drew) P1.out.a hb); obtain ⟨e0, e1, e2, e3, e4, e5, e6, e7, e8, e9, e10⟩ := cells_I HR2.out; obtain ⟨z0, z1, z2, z3, z4, z5, z6, z7, z8, z9, z10⟩ := frz_I HR2.out; have HB2 := hid hb; clear hb))
              all_goals
                obtain ⟨W3, hW3, hST⟩ := st11 w2 A _ ((agn x k (L.take j)).set t (x.f t)) HR2.out
                rw [← HAG.out] at hST
                have HST := hid hST
                have HO3 := hid ((P1.out.drew.below HB2.out).o.kept hST.grown (Or.inr (fun e => by have := (P1.out.o.lt A e).1; omega)))
                have hB3 : A + 1 ≤ W3.heap.size := by have h1 := (P1.out.drew.below HB2.out).bs; have h2 := hST.siz; omega
                clear hST z0 z1 z2 z3 z4 z5 z6 z7 z8 z9 z10 e0 e1 e2 e3 e4 e5 e6 e7 e8 e9 e10 d0 d1 d2 d3 d4 d5 d6 d7 d8 d9 d10 HR2
                rw [hW3]
                clear hW3
                go_wp2_with (first | (at_builtin; refine own_app W3 (by rfl) (.tmp 62) (.tmp 64) (by rfl) (A + 1) _ _ j (by rfl) HO3.out (x.f t) (by rfl) (by omega) hB3 ?_; intro v4 w5 ho5 hg5; have HO5 := hid ho5; have HG5 := hid hg5; clear ho5 hg5; refine Hid.out ?_))
                have PN := hid (show VaR w x k (some ⟨qb, qo, none⟩) L A (A + 1) (j + 1) v4 w5 from P1.out.drew.next HB2.out HST.out HG5.out (by rw [HTK.out]; simpa [List.map_append] using HO5.out) HWA.out (HQ.out (by omega) _ _ rfl) (by rw [HTK.out, List.all_append, P1.out.g]; simp [hgd]))
                clear HO5 HG5 HST HO3 P1 HB2
                refine hid ?_
                go_wp2
                go_roundw
                case rel => exact ⟨j + 1, by omega, by go_num, PN.out⟩
                case measure => simp [intOf]; omega

          · have hlt : most t < x.f t := by omega
            go_wp2
            go_region_with (first | (go_at_call 35; refine (VL.out wr.drew).mono ?_; rintro e w1 ⟨rfl, hb⟩; have HB1 := hid hb; clear hb))
            all_goals
              have P1 := hid (PJ.out.drew.below (w' := w1) HB1.out)
              obtain ⟨_, _, he1, g0, g1, _, _⟩ := P1.out.s j hjl
              obtain ⟨rfl, rfl⟩ := addr_inj he1
              rw [ht] at g0 g1
              clear HB1 he1 c0 c1 c2 c3 c4 c5 c6 c7 c8 c9 c10 f0

              go_wp2
              go_ret2
              exact HP.out _ _ ⟨P1.out.bel, Or.inl ⟨bad_of (HGF.out (by simp only [good, hok, Bool.true_and, Bool.or_eq_false_iff, decide_eq_false_iff_not]; omega)), rfl⟩⟩

        · have hgd : good x t = true := by simp only [good, hok, Bool.true_and, Bool.or_eq_true, decide_eq_true_eq]; exact Or.inl (by have := HMN.out t; omega)
          go_wp2
          go_region_with (first | (go_at_call 35; refine (VL.out wr.drew).mono ?_; rintro e w1 ⟨rfl, hb⟩; have HB1 := hid hb; clear hb))
          all_goals
            have P1 := hid (PJ.out.drew.below (w' := w1) HB1.out)
            obtain ⟨_, _, he1, g0, g1, _, _⟩ := P1.out.s j hjl
            obtain ⟨rfl, rfl⟩ := addr_inj he1
            rw [ht] at g0 g1
            clear HB1 he1 c0 c1 c2 c3 c4 c5 c6 c7 c8 c9 c10 f0

            obtain ⟨d0, d1, d2, d3, d4, d5, d6, d7, d8, d9, d10⟩ := cells_I P1.out.a
            go_wp2
            go_region_with (first | (go_at_call 24; refine (WI.out w1.drew).mono ?_; rintro e w2 ⟨rfl, hb⟩; have HR2 := hid (show w2.heap[A]? = some (.cells (agn x k (L.take j)).v 27 (0, 0)) from row_on (w := w1.drew) P1.out.a hb); obtain ⟨e0, e1, e2, e3, e4, e5, e6, e7, e8, e9, e10⟩ := cells_I HR2.out; obtain ⟨z0, z1, z2, z3, z4, z5, z6, z7, z8, z9, z10⟩ := frz_I HR2.out; have HB2 := hid hb; clear hb))
            all_goals
              obtain ⟨W3, hW3, hST⟩ := st11 w2 A _ ((agn x k (L.take j)).set t (x.f t)) HR2.out
              rw [← HAG.out] at hST
              have HST := hid hST
              have HO3 := hid ((P1.out.drew.below HB2.out).o.kept hST.grown (Or.inr (fun e => by have := (P1.out.o.lt A e).1; omega)))
              have hB3 : A + 1 ≤ W3.heap.size := by have h1 := (P1.out.drew.below HB2.out).bs; have h2 := hST.siz; omega
              clear hST z0 z1 z2 z3 z4 z5 z6 z7 z8 z9 z10 e0 e1 e2 e3 e4 e5 e6 e7 e8 e9 e10 d0 d1 d2 d3 d4 d5 d6 d7 d8 d9 d10 HR2
              rw [hW3]
              clear hW3
              go_wp2_with (first | (at_builtin; refine own_app W3 (by rfl) (.tmp 62) (.tmp 64) (by rfl) (A + 1) _ _ j (by rfl) HO3.out (x.f t) (by rfl) (by omega) hB3 ?_; intro v4 w5 ho5 hg5; have HO5 := hid ho5; have HG5 := hid hg5; clear ho5 hg5; refine Hid.out ?_))
              have PN := hid (show VaR w x k (some ⟨qb, qo, none⟩) L A (A + 1) (j + 1) v4 w5 from P1.out.drew.next HB2.out HST.out HG5.out (by rw [HTK.out]; simpa [List.map_append] using HO5.out) HWA.out (HQ.out (by omega) _ _ rfl) (by rw [HTK.out, List.all_append, P1.out.g]; simp [hgd]))
              clear HO5 HG5 HST HO3 P1 HB2
              refine hid ?_
              go_wp2
              go_roundw
              case rel => exact ⟨j + 1, by omega, by go_num, PN.out⟩
              case measure => simp [intOf]; omega

    · have hje : j = L.length := by omega
      subst hje
      have hp := PJ.out
      obtain ⟨ha, hg, ho⟩ := And.intro hp.a (And.intro hp.g hp.o)
      rw [List.take_length (l := L)] at ha hg ho
      have HG := hid hg
      have HO := hid ho
      have HBE := hid hp.bel
      obtain ⟨c0, c1, c2, c3, c4, c5, c6, c7, c8, c9, c10⟩ := cells_I hp.i
      obtain ⟨d0, d1, d2, d3, d4, d5, d6, d7, d8, d9, d10⟩ := cells_I ha
      clear hp hg ho ha PJ
      by_cases hto : (agn x k L).v = x.v
      · have q := eqI_yes (agn x k L).ki (agn x k L).co (agn x k L).id (agn x k L).tg (agn x k L).me (agn x k L).si (agn x k L).ty (agn x k L).pr (agn x k L).qt (agn x k L).pe (agn x k L).en x.ki x.co x.id x.tg x.me x.si x.ty x.pr x.qt x.pe x.en hto
        unfold iV at q
        have HTO := hid hto
        clear hto
        go_wp2
        go_ret2
        obtain ⟨p, cp, hv, hsu⟩ := own_su HO.out
        refine HP.out _ _ ⟨HBE.out, Or.inr ⟨⟨HG.out, HTO.out⟩, p, cp, ?_, hsu⟩⟩
        simp [hv]
      · have q := eqI_no (agn x k L).ki (agn x k L).co (agn x k L).id (agn x k L).tg (agn x k L).me (agn x k L).si (agn x k L).ty (agn x k L).pr (agn x k L).qt (agn x k L).pe (agn x k L).en x.ki x.co x.id x.tg x.me x.si x.ty x.pr x.qt x.pe x.en hto
        unfold iV at q
        have HTO := hid hto
        clear hto
        go_wp2
        go_ret2
        exact HP.out _ _ ⟨HBE.out, Or.inl ⟨fun h => HTO.out h.2, rfl⟩⟩
end Go.Proofs.Ytnhipamajelalaa
