/-
  The first order again, while an order comes.
-/
import Derived.Test.YtalgndgoedlpoaaRuT
namespace Go.Proofs.Ytalgndgoedlpoaa
open Go.RowKit Go.Deep Go.Shelf
set_option linter.unusedVariables false
set_option linter.unusedSimpArgs false
set_option maxHeartbeats 1000000
theorem set_self {row : Array Value} {k : Nat} {v : Value} (h : row[k]? = some v) : row.setIfInBounds k v = row := by
  apply Array.ext_getElem?
  intro j
  rw [Array.getElem?_setIfInBounds]
  split
  · rename_i e; subst e; rw [h]; simp [(Array.getElem?_eq_some_iff.1 h).1]
  · rfl
theorem again_cg (w0 : World) (F : Nat → Prop) (T B O : Nat) (b : Bs) (ve : Value) (es : List Ev) (o : Or) (s q S : Int) (k f n : Nat) (x : Or) (r : LO) (p : Option Addr) (c : Nat) (w : World) (h : Cg w0 F T B O b ve es o s q w) (hs : s = 1 ∨ s = 2) (hS : oth s = S) (hks : S = (k : Int) + 1) (hk : k < 2) (hl : b.sl S = (f, x) :: r) (hp : b.sp S = p) (hc : b.sc S = c) (hnn : ((f, x) :: r : LO).length = n) (hn : n ≤ 1048576) (ho : Srt S ((f, x) :: r)) :
    w.cell? ⟨B, 2 + k, none⟩ = some (.slice p n c) ∧ Calls Try.prog 77 #[.slice p n c, .int .i64 ((k : Int) + 1)] w fun e w' => e = .returned (.tuple #[]) ∧ Cg w0 F T B O (b.put S p c (agn S ((f, x) :: r))) ve es o s q w' := by
  have hli := h.tn.bm.sli S
  have hrk := Bs.rowk (b := b) hks hk
  have hnd := h.tn.bm.snd S
  rw [hl] at hnd
  rw [hl, hp, hc] at hli hrk
  refine ⟨by rw [row_cell h.tn.bm.row, hrk, hnn], ?_⟩
  have A := again_any p c S (f, x) r w hli (by rw [hnn]; exact hn) ho
  rw [hnn, hks] at A
  refine A.mono ?_
  rintro e w' ⟨rfl, d2, d3⟩
  refine ⟨rfl, ?_⟩
  rw [← hks] at d2
  have hkp : Kp (sfp b B S) w w' := d3.mono (fun j _ hj => .inr (by rw [hp]; exact hj))
  have hBr : w'.heap[B]? = some (.cells (b.row.setIfInBounds (2 + k) (.slice p (agn S ((f, x) :: r)).length c)) 90 (0, 0)) := by
    have h1 := d3.row h.tn.bm.row (fun e => by obtain ⟨c', e'⟩ := hli.ty e; exact row_ne h.tn.bm.row e' (by decide) rfl)
    rw [h1, agn_len, set_self hrk]
  have hb := h.tn.bm.list (p := p) (c := c) (l := agn S ((f, x) :: r)) hks hk hBr d2 hkp (fun g hg => .inl (by rw [hp]; exact hg)) (fun y hy => .inl (by rw [hl]; exact (agn_perm S _).mem_iff.1 hy)) (((agn_perm S _).map _).nodup_iff.2 hnd)
  have hcl := Cg.list (s := s) hs (l := agn S ((f, x) :: r)) h (fun y hy => by rw [hS, hl]; exact (agn_perm S _).mem_iff.1 hy) (by rw [hS]; exact hkp) (by rw [hS, hp, hc]; exact hb)
  rw [hS, hp, hc] at hcl
  exact hcl
end Go.Proofs.Ytalgndgoedlpoaa
