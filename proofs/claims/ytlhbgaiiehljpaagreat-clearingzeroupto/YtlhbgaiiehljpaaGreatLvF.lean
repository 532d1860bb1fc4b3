/-
  LvF
-/
import Derived.Test.YtlhbgaiiehljpaaGreatGAo
namespace Go.Proofs.YtlhbgaiiehljpaaGreat.Ac
open Go.RowKit Go.Deep Go.Maps MonM Go.Proofs.YtlhbgaiiehljpaaGreat
set_option linter.unusedVariables false
set_option linter.unusedSimpArgs false
set_option maxHeartbeats 4000000
set_option maxRecDepth 100000
theorem set_row {w : World} {g i : Nat} {cs : Array Value} (cs' : Array Value) {t : TypeId} {v : Value} (h : w.heap[g]? = some (.cells cs t (0, 0))) (e : cs.setIfInBounds i v = cs') : (w.setCell ⟨g, i, none⟩ v).heap[g]? = some (.cells cs' t (0, 0)) := by
 rw [← e]; exact heap_setCell_same w g i cs t v h
theorem ofp_ne {w : World} {p : Option Addr} {c n : Nat} {xs : List Value} (h : w.ownsRow 0 104 1 (.slice p n c) n xs) {r : Nat} {cs : Array Value} {t : TypeId} (hr : w.heap[r]? = some (.cells cs t (0, 0))) (ht : t ≠ 104) : ¬ OfP p r := by
 intro e
 unfold OfP at e
 subst e
 obtain ⟨cur, e⟩ := own_ty h rfl
 rw [hr] at e
 injection e with e
 injection e with _ e
 exact ht e
theorem join_end {w : World} {H : Nat} {o : Int} {p : Option Addr} {c : Nat} {l : List (Nat × Sv)} {M : Option Nat} {n : Nat} {f : HoP} (h : Ho w H o p c l M n f) (s : Sv) (hx : ∀ y ∈ l, y.2.m < s.m)
  {W X : World} {b g d : Nat} (bW : Below w.heap.size w W) (hb : w.heap.size ≤ b) (rb : W.heap[b]? = some (.cells (srow s) 106 (0, 0)))
  (own : X.ownsRow 0 104 1 (.slice (some ⟨g, 0, none⟩) (l.length + 1) d) (l.length + 1) (pv l ++ [pb b])) (kp : Kp (fun j => OfP p j) W X) (hg : OfP p g ∨ g = W.heap.size) (hsz : l.length < 1000000) :
  Ho (X.setCell ⟨H, 1, none⟩ (.slice (some ⟨g, 0, none⟩) (l.length + 1) d)) H o (some ⟨g, 0, none⟩) d (l ++ [(b, s)]) M n f ∧ Kp (Ob H p (bks l) M) w (X.setCell ⟨H, 1, none⟩ (.slice (some ⟨g, 0, none⟩) (l.length + 1) d)) ∧ (OfP p g ∨ w.heap.size ≤ g) := by
 have hW := h.on bW
 have nH := ofp_ne hW.me.own hW.row (by decide)
 have rX := kp.row hW.row nH
 obtain ⟨Y, hY⟩ : ∃ Y, X.setCell ⟨H, 1, none⟩ (.slice (some ⟨g, 0, none⟩) (l.length + 1) d) = Y := ⟨_, rfl⟩
 have kY : Kp (fun j => j = H) X Y := by rw [← hY]; exact Kp.set X H 1 _
 have rY : Y.heap[H]? = some (.cells #[.int .u64 o, .slice (some ⟨g, 0, none⟩) (l.length + 1) d, .map M] 100 (0, 0)) := by rw [← hY]; exact set_row _ rX (by rfl)
 obtain ⟨cur, eg⟩ := own_ty own rfl
 have gH : g ≠ H := fun e => by
  subst e
  rw [rX] at eg
  injection eg with eg
  injection eg with _ eg
  exact absurd eg (by decide)
 have oY : Y.ownsRow 0 104 1 (.slice (some ⟨g, 0, none⟩) (l.length + 1) d) (l.length + 1) (pv l ++ [pb b]) := own_same own (fun g' e => by
  injection e with e
  have e : g = g' := e
  subst e
  exact kY.obj g (row_lt eg) gH)
 have key : ∀ {r : Nat} {cs : Array Value}, W.heap[r]? = some (.cells cs 106 (0, 0)) → Y.heap[r]? = some (.cells cs 106 (0, 0)) := fun {r cs} e => by
  have e1 := kp.row e (ofp_ne hW.me.own e (by decide))
  exact kY.row e1 (fun e2 => by
   subst e2
   rw [rX] at e1
   injection e1 with e1
   injection e1 with _ e1
   exact absurd e1 (by decide))
 rw [hY]
 refine ⟨⟨?_, ⟨?_, fun x hx' => ?_⟩, ?_, ?_, ?_, ?_⟩, ?_, ?_⟩
 ·rw [show (l ++ [(b, s)]).length = l.length + 1 from by simp]
  exact rY
 ·rw [show (l ++ [(b, s)]).length = l.length + 1 from by simp, show pv (l ++ [(b, s)]) = pv l ++ [pb b] from by simp [pv]]
  exact oY
 ·rcases List.mem_append.1 hx' with h1 | h1
  ·exact key (hW.me.st x h1)
  ·simp at h1
   subst h1
   exact key rb
 ·rw [List.map_append, List.nodup_append]
  refine ⟨h.nd, by simp, fun a ha b' hb' e => ?_⟩
  simp at hb'
  subst hb'
  have := h.lt (.inr (.inr (.inl ha)))
  omega
 ·unfold Up
  rw [List.pairwise_append]
  refine ⟨h.up, by simp, fun a ha b' hb' => ?_⟩
  simp at hb'
  subst hb'
  exact hx a ha
 ·simp
  omega
 ·have h1 := hW.mp.kept kp (fun q e e2 => by
   have e3 := hW.mp
   rw [e] at e3
   obtain ⟨es, cl, e3⟩ := Mp.obj e3
   unfold OfP at e2
   have e4 := hW.me.own
   rw [e2] at e4
   obtain ⟨cur', e4⟩ := own_ty e4 rfl
   rw [e3] at e4
   cases e4)
  refine h1.kept kY (fun q e e2 => ?_)
  subst e2
  have e3 := h1
  rw [e] at e3
  obtain ⟨es, cl, e3⟩ := Mp.obj e3
  rw [rX] at e3
  cases e3
 ·refine ((Kp.of _ bW).trans kp (fun q hq e => ?_)).trans kY (fun q _ e => .inl e)
  unfold OfP at e
  exact .inr (.inl ⟨_, e, rfl⟩)
 ·exact hg.imp id (fun e => by have := bW.size; omega)
end Go.Proofs.YtlhbgaiiehljpaaGreat.Ac
