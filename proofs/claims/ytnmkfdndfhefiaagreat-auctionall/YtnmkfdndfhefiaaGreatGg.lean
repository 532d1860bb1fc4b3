/-
  The document's Uncross: between two fills.
-/
import Derived.Test.YtnmkfdndfhefiaaGreatQuO
namespace Go.Proofs.YtnmkfdndfhefiaaGreat
open Go.RowKit Go.Deep Go.Shelf
set_option linter.unusedVariables false
set_option linter.unusedSimpArgs false
set_option maxHeartbeats 16000000
set_option maxRecDepth 100000
/-- what stands between two fills: the call, what is traded so far, and what is still to come. -/
structure Uc (w wr : World) (R γ : Nat) (r m : Int) (z : Qt) (FA : List Fi) (fb fs : List It) (L : List It) (pL : Option Addr) (cL : Nat) (p0 : Option Addr) (left : Int) (F0 : List Fi) (pf : Option Addr) (cf : Nat) : Prop where
  row : wr.heap[R]? = some (.cells #[.int .i64 r, .int .i64 m, .slice pL L.length cL] 29 (0, 0))
  ro1 : wr.heap[R + 1]? = some (.cells #[.int .i64 0, .int .i64 0, .slice none 0 0] 29 (0, 0))
  ro2 : wr.heap[R + 2]? = some (.cells #[.int .i64 0, .int .u64 0, .int .u64 0, .int .i64 0, .int .i64 0] 57 (0, 0))
  rog : wr.heap[γ]? = some (.cells #[.int .i64 z.pr, .int .u64 z.vo, .int .u64 z.su, .int .i64 z.sd, .int .i64 z.ru] 57 (0, 0))
  li : Li wr pL cL L
  lk : Lk L
  vg : Vg left (iso 1 L) (iso 2 L)
  td : ∃ f, (iso 1 L).length + (iso 2 L).length ≤ f ∧ F0 ++ (trd z.pr f left (iso 1 L) (iso 2 L)).1 = FA ∧ (trd z.pr f left (iso 1 L) (iso 2 L)).2 = (fb, fs)
  fo : wr.ownsRow w.heap.size 67 4 (.slice pf F0.length cf) F0.length (frs F0)
  be : Below w.heap.size w wr
  fr : ∀ g, OfP pL g → OfP p0 g ∨ w.heap.size ≤ g
theorem Uc.on {w wr U : World} {R γ : Nat} {r m : Int} {z : Qt} {FA : List Fi} {fb fs : List It} {L : List It} {pL : Option Addr} {cL : Nat} {p0 : Option Addr} {left : Int} {F0 : List Fi} {pf : Option Addr} {cf : Nat} (h : Uc w wr R γ r m z FA fb fs L pL cL p0 left F0 pf cf) (hb : Below wr.heap.size wr U) : Uc w U R γ r m z FA fb fs L pL cL p0 left F0 pf cf := ⟨row_on h.row hb, row_on h.ro1 hb, row_on h.ro2 hb, row_on h.rog hb, h.li.on hb, h.lk, h.vg, h.td, own_on h.fo hb, btr h.be hb, h.fr⟩
/-- the next fill: who it is between, and how much. -/
theorem Uc.next {w wr : World} {R γ : Nat} {r m : Int} {z : Qt} {FA : List Fi} {fb fs : List It} {L : List It} {pL : Option Addr} {cL : Nat} {p0 : Option Addr} {left : Int} {F0 : List Fi} {pf : Option Addr} {cf : Nat} (h : Uc w wr R γ r m z FA fb fs L pL cL p0 left F0 pf cf) (hl : 0 < left) : ∃ x xs y ys, iso 1 L = x :: xs ∧ iso 2 L = y :: ys ∧ x ∈ L ∧ y ∈ L ∧ x.sd = 1 ∧ y.sd = 2 ∧ 1 ≤ x.qt ∧ x.qt ≤ 4294967295 ∧ 1 ≤ y.qt ∧ y.qt ≤ 4294967295 ∧ min x.qt y.qt ≤ left ∧ Vg (left - min x.qt y.qt) (cut x (min x.qt y.qt) xs) (cut y (min x.qt y.qt) ys) ∧ ∃ f, (cut x (min x.qt y.qt) xs).length + (cut y (min x.qt y.qt) ys).length ≤ f ∧ (F0 ++ [⟨x.id, y.id, z.pr, min x.qt y.qt⟩]) ++ (trd z.pr f (left - min x.qt y.qt) (cut x (min x.qt y.qt) xs) (cut y (min x.qt y.qt) ys)).1 = FA ∧ (trd z.pr f (left - min x.qt y.qt) (cut x (min x.qt y.qt) xs) (cut y (min x.qt y.qt) ys)).2 = (fb, fs) := by
  obtain ⟨l1, l2⟩ := h.vg.pos hl
  have hb := h.lk.sd 1
  have hs := h.lk.sd 2
  obtain ⟨f, hf, t1, t2⟩ := h.td
  have hv := h.vg
  cases hb1 : iso 1 L with
  | nil => rw [hb1] at l1; simp at l1
  | cons x xs =>
    cases hs1 : iso 2 L with
    | nil => rw [hs1] at l2; simp at l2
    | cons y ys =>
      rw [hb1] at hb hf t1 t2 hv
      rw [hs1] at hs hf t1 t2 hv
      obtain ⟨hx, hxs⟩ := mem_iso.1 (show x ∈ iso 1 L by rw [hb1]; simp)
      obtain ⟨hy, hys⟩ := mem_iso.1 (show y ∈ iso 2 L by rw [hs1]; simp)
      obtain ⟨hn, hv'⟩ := Vg.step hb hs hv hl
      obtain ⟨f', ef, hf', et⟩ := trd_step (p := z.pr) (f := f) (left := left) (x := x) (y := y) (xs := xs) (ys := ys) hl hf
      rw [et] at t1 t2
      have q1 := hb.ok x (by simp)
      have q2 := hs.ok y (by simp)
      exact ⟨x, xs, y, ys, rfl, rfl, hx, hy, hxs, hys, q1.q0, q1.q1, q2.q0, q2.q1, hn, hv', f', hf', by rw [← t1]; simp, t2⟩
end Go.Proofs.YtnmkfdndfhefiaaGreat
namespace Go.Proofs.YtnmkfdndfhefiaaGreat
open Go.RowKit Go.Deep Go.Shelf
set_option linter.unusedVariables false
set_option linter.unusedSimpArgs false
set_option maxHeartbeats 16000000
set_option maxRecDepth 100000
/-- a condition that is asked may be made stronger on the way. -/
theorem wpAnyH_more {P : Program} {md : Region.Mode} {ops : Array Oper} {Q : Exit → Act → World → Prop} {S S' : World → Prop} (hS : ∀ w, S' w → S w) : ∀ (fuel : Nat) (listed : Array Bool) (a : Act) (w : World), wpAnyH P md ops Q S' fuel listed a w → wpAnyH P md ops Q S fuel listed a w
  | 0, _, _, _, h => h
  | fuel + 1, _, _, _, h => ⟨h.1, fun i hi => wpOp_mono (fun a' w' h' => ⟨hS _ h'.1, wpAnyH_more hS fuel _ a' w' h'.2⟩) (h.2 i hi)⟩
/-- a cut behind a region: its ways meet there. -/
theorem reg_cut {P : Program} {id : Nat} {ops : Array Oper} {b : Bool} {Q : Exit → Act → World → Prop} {a : Act} {w : World} {X : Type} (F : Act → X → Act) (T : X → World → Prop)
    (h1 : (Code.region id ops b).wp P (fun e a' w' => match e with | .normal => ∃ x, a' = F a x ∧ T x w' | _ => False) a w)
    (h2 : ∀ x w', T x w' → Q .normal (F a x) w') : (Code.region id ops b).wp P Q a w :=
  wp_mono h1 (fun e a' w' h => by
    cases e with
    | normal => obtain ⟨x, rfl, ht⟩ := h; exact h2 x w' ht
    | _ => exact h.elim)
/-- the first cells of a block are an interest's. -/
def Cx (x : It) (cu : Array Value) : Prop := cu[0]? = some (.int .u64 x.id) ∧ cu[1]? = some (.int .u32 x.mb) ∧ cu[2]? = some (.int .i64 x.sd) ∧ cu[3]? = some (.int .i64 x.ty) ∧ cu[4]? = some (.int .i64 x.pr) ∧ cu[5]? = some (.int .u64 x.qt)
theorem Cx.at {x : It} {cu : Array Value} (h : Cx x cu) {W : World} {g : Nat} {t : TypeId} (hg : W.heap[g]? = some (.cells cu t (0, 0))) : W.cell? ⟨g, 0, none⟩ = some (.int .u64 x.id) ∧ W.cell? ⟨g, 1, none⟩ = some (.int .u32 x.mb) ∧ W.cell? ⟨g, 2, none⟩ = some (.int .i64 x.sd) ∧ W.cell? ⟨g, 3, none⟩ = some (.int .i64 x.ty) ∧ W.cell? ⟨g, 4, none⟩ = some (.int .i64 x.pr) ∧ W.cell? ⟨g, 5, none⟩ = some (.int .u64 x.qt) := by
  obtain ⟨h0, h1, h2, h3, h4, h5⟩ := h
  exact ⟨(row_cell hg 0).trans h0, (row_cell hg 1).trans h1, (row_cell hg 2).trans h2, (row_cell hg 3).trans h3, (row_cell hg 4).trans h4, (row_cell hg 5).trans h5⟩
/-- the first of a side, asked in a drawn region. -/
theorem first_any (r m s : Int) (p : Option Addr) (c : Nat) (L : List It) (x : It) (xs : List It) (n k : Nat) (U : World) (h : Li U p c L) (hk : Lk L) (hi : iso s L = x :: xs) (hn : L.length = n) (hl : (x :: xs).length = k) :
    Calls Tryz.prog 25 #[.agg #[.int .i64 r, .int .i64 m, .slice p n c], .int .i64 s] U fun e w' => ∃ g1 c1 cu, e = .returned (.slice (some ⟨g1, 0, none⟩) k c1) ∧ Hid (Below U.heap.size U w') ∧ Hid (U.heap.size ≤ g1) ∧ Hid (w'.heap[g1]? = some (.cells cu 35 (0, 0))) ∧ Hid (Cx x cu) := by
  have := rinterests_any r m s p c L U h hk.ln hk.ok
  rw [hi, hn, hl] at this
  refine this.mono ?_
  rintro e w' ⟨p', c', he, hl', hb, hg⟩
  obtain ⟨g1, hg1, a0, a1, a2, a3, a4, a5⟩ := hl'.cells (i := 0) (by simp)
  subst hg1
  obtain ⟨cu, hcu⟩ := hl'.ty (OfP.mk g1)
  rw [row_cell hcu] at a0 a1 a2 a3 a4 a5
  exact ⟨g1, c', cu, he, hid hb, hid (hg g1 (OfP.mk g1)), hid hcu, hid ⟨a0, a1, a2, a3, a4, a5⟩⟩
theorem lsd_mem {L : List It} (h : Lk L) {x y : It} {ys : List It} (e2 : iso 2 L = y :: ys) (hx : x ∈ L) (sx : x.sd = 1) (n : Int) : y ∈ lsd x n L := by
  have i2 : iso 2 (lsd x n L) = y :: ys := by rw [lsd_other h hx (by rw [sx]; decide) n, e2]
  exact (mem_iso.1 (show y ∈ iso 2 (lsd x n L) by rw [i2]; simp)).1
theorem trd_len (p : Int) : ∀ (f : Nat) (left : Int) (xs ys : List It), (trd p f left xs ys).1.length ≤ f
  | 0, _, _, _ => by simp [trd]
  | f + 1, left, [], ys => by simp [trd]
  | f + 1, left, x :: xs, [] => by simp [trd]
  | f + 1, left, x :: xs, y :: ys => by
    unfold trd
    split
    · simp
    · have := trd_len p f (left - min x.qt y.qt) (cut x (min x.qt y.qt) xs) (cut y (min x.qt y.qt) ys)
      simp only [List.length_cons]
      omega
theorem Uc.few {w wr : World} {R γ : Nat} {r m : Int} {z : Qt} {FA : List Fi} {fb fs : List It} {L : List It} {pL : Option Addr} {cL : Nat} {p0 : Option Addr} {left : Int} {F0 : List Fi} {pf : Option Addr} {cf : Nat} (h : Uc w wr R γ r m z FA fb fs L pL cL p0 left F0 pf cf) : F0.length ≤ FA.length := by
  obtain ⟨f, _, t1, _⟩ := h.td
  rw [← t1]
  simp
/-- one fill further. -/
theorem Uc.further {w wr Y : World} {R γ : Nat} {r m : Int} {z : Qt} {FA : List Fi} {fb fs : List It} {L : List It} {pL : Option Addr} {cL : Nat} {p0 : Option Addr} {left : Int} {F0 : List Fi} {pf : Option Addr} {cf : Nat} (h : Uc w wr R γ r m z FA fb fs L pL cL p0 left F0 pf cf) {x y : It} {xs ys : List It} {n : Int} (e1 : iso 1 L = x :: xs) (e2 : iso 2 L = y :: ys) (hx : x ∈ L) (hy : y ∈ L) (sx : x.sd = 1) (sy : y.sd = 2) (n0 : 0 < n) (nx : n ≤ x.qt) (ny : n ≤ y.qt)
    (hv : Vg (left - n) (cut x n xs) (cut y n ys)) {f' : Nat} (hf : (cut x n xs).length + (cut y n ys).length ≤ f') (t1 : (F0 ++ [⟨x.id, y.id, z.pr, n⟩]) ++ (trd z.pr f' (left - n) (cut x n xs) (cut y n ys)).1 = FA) (t2 : (trd z.pr f' (left - n) (cut x n xs) (cut y n ys)).2 = (fb, fs))
    {p2 : Option Addr} {c2 : Nat} {pf' : Option Addr} {cf' : Nat}
    (hrow : Y.heap[R]? = some (.cells #[.int .i64 r, .int .i64 m, .slice p2 (lsd y n (lsd x n L)).length c2] 29 (0, 0))) (hk : ∀ g, g < wr.heap.size → g ≠ R → Value.ownBlock (.slice pf F0.length cf) ≠ some g → Y.heap[g]? = wr.heap[g]?)
    (hli : Li Y p2 c2 (lsd y n (lsd x n L))) (hfo : Y.ownsRow w.heap.size 67 4 (.slice pf' (F0.length + 1) cf') (F0.length + 1) (frs F0 ++ frow ⟨x.id, y.id, z.pr, n⟩)) (hbe : Below w.heap.size w Y) (hfr : ∀ g, OfP p2 g → w.heap.size ≤ g) :
    Uc w Y R γ r m z FA fb fs (lsd y n (lsd x n L)) p2 c2 p0 (left - n) (F0 ++ [⟨x.id, y.id, z.pr, n⟩]) pf' cf' := by
  have k1 : Lk (lsd x n L) := lsd_lk h.lk hx (by omega) nx
  have i1 : iso 1 (lsd x n L) = cut x n xs := lsd_same h.lk e1 n
  have i2 : iso 2 (lsd x n L) = y :: ys := by rw [lsd_other h.lk hx (by rw [sx]; decide) n, e2]
  have hy1 : y ∈ lsd x n L := (mem_iso.1 (show y ∈ iso 2 (lsd x n L) by rw [i2]; simp)).1
  have k2 : Lk (lsd y n (lsd x n L)) := lsd_lk k1 hy1 (by omega) ny
  have j1 : iso 1 (lsd y n (lsd x n L)) = cut x n xs := by rw [lsd_other k1 hy1 (by rw [sy]; decide) n, i1]
  have j2 : iso 2 (lsd y n (lsd x n L)) = cut y n ys := lsd_same k1 i2 n
  have nf : ∀ g t cs, t ≠ 67 → wr.heap[g]? = some (.cells cs t (0, 0)) → Value.ownBlock (.slice pf F0.length cf) ≠ some g := fun g t cs ht hg e => by
    obtain ⟨cu, hc⟩ := own_ty h.fo e
    exact row_ne hg hc ht rfl
  have q : ∀ g t cs, t ≠ 67 → g ≠ R → wr.heap[g]? = some (.cells cs t (0, 0)) → Y.heap[g]? = some (.cells cs t (0, 0)) := fun g t cs ht hR hg => (hk g (row_lt hg) hR (nf g t cs ht hg)).trans hg
  refine ⟨hrow, q _ _ _ (by decide) (by omega) h.ro1, q _ _ _ (by decide) (by omega) h.ro2, q _ _ _ (by decide) (row_ne h.rog h.row (by decide)) h.rog, hli, k2, ?_, ⟨f', ?_, ?_, ?_⟩, ?_, hbe, fun g hg => .inr (hfr g hg)⟩
  · rw [j1, j2]; exact hv
  · rw [j1, j2]; exact hf
  · rw [j1, j2]; exact t1
  · rw [j1, j2]; exact t2
  · rw [List.length_append, frs_app]
    simpa [frs] using hfo
end Go.Proofs.YtnmkfdndfhefiaaGreat
