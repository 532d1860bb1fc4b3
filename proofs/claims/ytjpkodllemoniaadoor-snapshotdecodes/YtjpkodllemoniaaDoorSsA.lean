/-
  Sorting: what lies there, with a property.
-/
import Derived.Test.YtjpkodllemoniaaDoorSrA
import Derived.Sort.LotA
import Derived.Sort.LotB
import Derived.Sort.LotC
import Derived.Sort.LotD2
import Derived.Sort.LotD3
namespace Go.Proofs.YtjpkodllemoniaaDoor.Sr
open Go.RowKit Go.Deep
set_option linter.unusedVariables false
set_option linter.unusedSimpArgs false
set_option maxHeartbeats 8000000
set_option maxRecDepth 100000
attribute [local go_sem ↓] Go.wp_at_zero Go.wp_at_succ
/-- numbers in a block, with a property of their list; only that block has changed. -/
def Sp (w0 w : World) (g n : Nat) (F : List Int → Prop) : Prop := ∃ l, F l ∧ Uz w g n l ∧ Kp (fun b => b = g) w0 w
theorem Uz.sp {w : World} {g n : Nat} {l : List Int} {F : List Int → Prop} (h : Uz w g n l) (hf : F l) : Sp w w g n F := ⟨l, hf, h, Kp.refl _ _⟩
theorem Sp.drew {w0 w : World} {g n : Nat} {F : List Int → Prop} (h : Sp w0 w g n F) : Sp w0 w.drew g n F := by
  obtain ⟨l, h1, h2, h3⟩ := h
  exact ⟨l, h1, h2.same rfl, h3.trans (Kp.drew _ _) (fun _ _ e => e)⟩
theorem Sp.drewN {w0 w : World} {g n : Nat} {F : List Int → Prop} (h : Sp w0 w g n F) (k : Nat) : Sp w0 (w.drewN k) g n F := by
  obtain ⟨l, h1, h2, h3⟩ := h
  exact ⟨l, h1, h2.same rfl, h3.trans (Kp.drewN _ _ k) (fun _ _ e => e)⟩
theorem Sp.on {w0 w w' : World} {g n : Nat} {F : List Int → Prop} (h : Sp w0 w g n F) (hb : Below w.heap.size w w') : Sp w0 w' g n F := by
  obtain ⟨l, h1, h2, h3⟩ := h
  obtain ⟨cur, e, _⟩ := h2.row
  exact ⟨l, h1, h2.same (hb.block g (row_lt e)), h3.trans (Kp.of _ hb) (fun _ _ e => e)⟩
theorem Sp.mono {w0 w : World} {g n : Nat} {F G : List Int → Prop} (h : Sp w0 w g n F) (hm : ∀ l, l.length = n → F l → G l) : Sp w0 w g n G := by
  obtain ⟨l, h1, h2, h3⟩ := h
  exact ⟨l, hm l h2.len h1, h2, h3⟩
theorem Sp.trans {w0 w w' : World} {g n : Nat} {F : List Int → Prop} (h3 : Kp (fun b => b = g) w0 w) (h : Sp w w' g n F) : Sp w0 w' g n F := by
  obtain ⟨l', a1, a2, a3⟩ := h
  exact ⟨l', a1, a2, h3.trans a3 (fun _ _ e => e)⟩
theorem Sp.swap {w0 w : World} {g n : Nat} {l : List Int} {F : List Int → Prop} {i j : Nat} (h1 : F (sw l i j)) (h2 : Uz w g n l) (h3 : Kp (fun b => b = g) w0 w) (hi : i < n) (hj : j < n) : Sp w0 ((w.setCell ⟨g, i, none⟩ (.int .u64 (gd l j))).setCell ⟨g, j, none⟩ (.int .u64 (gd l i))) g n F :=
  ⟨sw l i j, h1, (h2.set hi _).set hj _, (h3.trans (Kp.set w g i _) (fun _ _ e => e)).trans (Kp.set _ g j _) (fun _ _ e => e)⟩
theorem arr_get (l : List Int) (i : Nat) : l.toArray[i]! = gd l i := by
  unfold gd
  simp [List.getD_eq_getElem?_getD]
theorem sw_arr (l : List Int) (i j : Nat) : (sw l i j).toArray = Go.Sort.swp l.toArray i j := by
  unfold sw Go.Sort.swp
  rw [arr_get, arr_get]
  simp
theorem sw_len (l : List Int) (i j : Nat) : (sw l i j).length = l.length := by simp [sw]
/-- the order of numbers. -/
abbrev lt := Go.Sort.ltInt
theorem lt_def (x y : Int) : lt x y = decide (x < y) := rfl
theorem insInner_stop {a j : Nat} {d : Array Int} (h : ¬ a < j) : Go.Sort.insInner lt a j d = d := by
  cases j with
  | zero => rfl
  | succ k => unfold Go.Sort.insInner; rw [if_neg]; simp; omega
theorem insInner_go {a k : Nat} {l : List Int} (h : a < k + 1) (hl : decide (gd l (k + 1) < gd l k) = true) : Go.Sort.insInner lt a (k + 1) l.toArray = Go.Sort.insInner lt a k (sw l (k + 1) k).toArray := by
  rw [sw_arr]
  conv => lhs; unfold Go.Sort.insInner
  rw [arr_get, arr_get, if_pos]
  simp only [lt_def, hl, Bool.and_true, decide_eq_true_eq]; omega
theorem insInner_no {a k : Nat} {l : List Int} (hl : decide (gd l (k + 1) < gd l k) = false) : Go.Sort.insInner lt a (k + 1) l.toArray = l.toArray := by
  unfold Go.Sort.insInner
  rw [arr_get, arr_get, if_neg]
  simp only [lt_def, hl, Bool.and_false]; simp
theorem insOuter_go {a b i : Nat} {d : Array Int} (h : i < b) : Go.Sort.insOuter lt a b i d = Go.Sort.insOuter lt a b (i + 1) (Go.Sort.insInner lt a i d) := by
  conv => lhs; unfold Go.Sort.insOuter
  rw [if_pos h]
theorem insOuter_end {a b i : Nat} {d : Array Int} (h : ¬ i < b) : Go.Sort.insOuter lt a b i d = d := by
  unfold Go.Sort.insOuter
  rw [if_neg h]
end Go.Proofs.YtjpkodllemoniaaDoor.Sr
