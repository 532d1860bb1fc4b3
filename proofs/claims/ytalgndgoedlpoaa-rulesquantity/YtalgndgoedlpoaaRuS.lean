/-
  What stands while an order comes.
-/
import Derived.Test.YtalgndgoedlpoaaRuQ
import Derived.Test.YtalgndgoedlpoaaRuR
import Derived.Deep.DrawnRows
namespace Go.Proofs.Ytalgndgoedlpoaa
open Go.RowKit Go.Deep Go.Shelf
set_option linter.unusedVariables false
set_option linter.unusedSimpArgs false
set_option maxHeartbeats 4000000
set_option maxRecDepth 100000
/-- the blocks that an order that comes may touch. -/
def ffp (b : Bs) (T B O : Nat) (ve : Value) (s : Int) (j : Nat) : Prop := tfp T B ve j ∨ OfP (b.sp (oth s)) j ∨ j ∈ (b.sl (oth s)).map (·.1) ∨ j = O
structure Cg (w0 : World) (F : Nat → Prop) (T B O : Nat) (b : Bs) (ve : Value) (es : List Ev) (o : Or) (s q : Int) (w : World) : Prop where
  tn : Tn w T B b ve es
  ow : w.heap[O]? = some (.cells (crow o s q) 70 (0, 0))
  kp : Kp F w0 w
  fr : ∀ j, ffp b T B O ve s j → F j ∨ w0.heap.size ≤ j
theorem Cg.on {w0 : World} {F : Nat → Prop} {T B O : Nat} {b : Bs} {ve : Value} {es : List Ev} {o : Or} {s q : Int} {w w' : World} (h : Cg w0 F T B O b ve es o s q w) (hb : Below w.heap.size w w') : Cg w0 F T B O b ve es o s q w' :=
  ⟨h.tn.on hb, row_on h.ow hb, h.kp.trans (Kp.of (fun _ => False) hb) (fun _ _ h => h.elim), h.fr⟩
theorem Bs.put_sl (b : Bs) (s : Int) (hs : s = 1 ∨ s = 2) (p : Option Addr) (c : Nat) (l : LO) : (b.put s p c l).sl s = l ∧ (b.put s p c l).sp s = p ∧ (b.put s p c l).sc s = c := by
  rcases hs with rfl | rfl <;> exact ⟨rfl, rfl, rfl⟩
theorem Bs.put_so (b : Bs) (s : Int) (hs : s = 1 ∨ s = 2) (p : Option Addr) (c : Nat) (l : LO) : (b.put s p c l).sl (oth s) = b.sl (oth s) ∧ (b.put s p c l).sp (oth s) = b.sp (oth s) ∧ (b.put s p c l).sc (oth s) = b.sc (oth s) := by
  rcases hs with rfl | rfl <;> exact ⟨rfl, rfl, rfl⟩
theorem oth_side {s : Int} (hs : s = 1 ∨ s = 2) : oth s = 1 ∨ oth s = 2 := by rcases hs with rfl | rfl <;> simp [oth]
theorem told_sl (b : Bs) (s : Int) : b.told.sl s = b.sl s ∧ b.told.sp s = b.sp s ∧ b.told.sc s = b.sc s := ⟨rfl, rfl, rfl⟩
/-- the first order of a side is changed in its place. -/
theorem Bm.upd {w w' : World} {B : Nat} {b : Bs} {s : Int} (hs : s = 1 ∨ s = 2) {f : Nat} {x x' : Or} {r : LO} (h : Bm w B b) (hl : b.sl s = (f, x) :: r) (hk : Kp (fun j => j = f) w w') (hx : w'.heap[f]? = some (.cells (orow x') 50 (0, 0))) : Bm w' B (b.put s (b.sp s) (b.sc s) ((f, x') :: r)) := by
  have hf : w.heap[f]? = some (.cells (orow x) 50 (0, 0)) := (h.sli s).at' (f, x) (by rw [hl]; simp)
  have nd := h.snd s
  rw [hl] at nd
  have nfr : ∀ y ∈ r, y.1 ≠ f := fun y hy e => by
    simp only [List.map_cons, List.nodup_cons] at nd
    exact nd.1 (List.mem_map.2 ⟨y, hy, e⟩)
  have hlist : Li w' (b.sp s) (b.sc s) ((f, x') :: r) := by
    have h1 := (h.sli s)
    rw [hl] at h1
    refine ⟨own_same h1.own (fun g hg => ?_), fun y hy => ?_⟩
    · obtain ⟨c, e⟩ := own_ty h1.own hg
      exact hk.obj g (row_lt e) (row_ne e hf (by decide))
    · rcases List.mem_cons.1 hy with rfl | hy
      · exact hx
      · exact hk.row (h1.at' y (by simp [hy])) (nfr y hy)
  have hrow : (b.put s (b.sp s) (b.sc s) ((f, x') :: r)).row = b.row := by
    rcases hs with rfl | rfl
    · have : b.l1 = (f, x) :: r := hl
      simp [Bs.put, Bs.row, Bs.sp, Bs.sc, this]
    · have : b.l2 = (f, x) :: r := hl
      simp [Bs.put, Bs.row, Bs.sp, Bs.sc, this]
  have ndA := sublist_nodup_left h.nd
  rcases hs with rfl | rfl
  · have e1 : b.l1 = (f, x) :: r := hl
    refine ⟨by rw [hrow]; exact hk.row h.row (row_ne h.row hf (by decide)), hlist, h.li2.kept hk (fun g hg => ?_) (fun y hy => ?_), ?_, h.ap⟩
    · obtain ⟨c, e⟩ := h.li2.ty hg; exact row_ne e hf (by decide)
    · exact fun e => ndA.2.2 (f, x) (by rw [e1]; simp) y hy e.symm
    · have := h.nd
      rw [e1] at this
      exact this
  · have e1 : b.l2 = (f, x) :: r := hl
    refine ⟨by rw [hrow]; exact hk.row h.row (row_ne h.row hf (by decide)), h.li1.kept hk (fun g hg => ?_) (fun y hy => ?_), hlist, ?_, h.ap⟩
    · obtain ⟨c, e⟩ := h.li1.ty hg; exact row_ne e hf (by decide)
    · exact fun e => ndA.2.2 y hy (f, x) (by rw [e1]; simp) e
    · have := h.nd
      rw [e1] at this
      show ((b.l1 ++ (f, x') :: r).map (·.1)).Nodup
      simpa using this
/-- a turn whose book's first order is changed. -/
theorem Tn.upd {w w' : World} {T B : Nat} {b : Bs} {ve : Value} {es : List Ev} {s : Int} (hs : s = 1 ∨ s = 2) {f : Nat} {x x' : Or} {r : LO} (h : Tn w T B b ve es) (hl : b.sl s = (f, x) :: r) (hk : Kp (fun j => j = f) w w') (hx : w'.heap[f]? = some (.cells (orow x') 50 (0, 0))) : Tn w' T B (b.put s (b.sp s) (b.sc s) ((f, x') :: r)) ve es := by
  have hf : w.heap[f]? = some (.cells (orow x) 50 (0, 0)) := (h.bm.sli s).at' (f, x) (by rw [hl]; simp)
  refine ⟨h.bm.upd hs hl hk hx, hk.row h.row (row_ne h.row hf (by decide)), own_same h.ev (fun j hj => ?_)⟩
  obtain ⟨c, e⟩ := own_ty h.ev hj
  exact hk.obj j (row_lt e) (row_ne e hf (by decide))
def evT (o : Or) (s : Int) (x : Or) (q : Int) : Ev := ⟨0, 3, o.id, x.id, 0, 0, s, 0, x.pr, q, 0, 0, 0⟩
def evF (x : Or) : Ev := ⟨0, 5, x.id, 0, 0, 0, 0, 0, x.pr, x.vi, 0, 0, 0⟩
def Or.less (x : Or) (q : Int) : Or := { x with vi := x.vi - q }
def Or.shn (x : Or) : Or := { x with vi := (shw x.pk x.hi).1, hi := (shw x.pk x.hi).2 }
/-- a list behind a trade with its first order. -/
def trl (S : Int) (f : Nat) (x : Or) (r : LO) (q : Int) : LO := if 0 < x.vi - q then (f, x.less q) :: r else if x.hi = 0 then r else agn S ((f, (x.less q).shn) :: r)
/-- what is told of it. -/
def trb (b : Bs) (x : Or) (q : Int) : Bs := if 0 < x.vi - q then b.told else if x.hi = 0 then b.told else b.told.told
def tre (n : Int) (o : Or) (s : Int) (x : Or) (q : Int) : List Ev := if 0 < x.vi - q then [(evT o s x q).num (nx n)] else if x.hi = 0 then [(evT o s x q).num (nx n)] else [(evT o s x q).num (nx n), (evF (x.less q).shn).num (nx (nx n))]
end Go.Proofs.Ytalgndgoedlpoaa
