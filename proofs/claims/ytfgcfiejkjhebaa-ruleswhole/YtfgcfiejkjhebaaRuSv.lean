/-
  Valid of a book that is told.
-/
import Derived.Test.YtfgcfiejkjhebaaGg
import Derived.Test.YtfgcfiejkjhebaaGj
namespace Go.Proofs.Ytfgcfiejkjhebaa
open Go.RowKit Go.Deep Go.Shelf
set_option linter.unusedVariables false
set_option linter.unusedSimpArgs false
set_option maxHeartbeats 8000000
set_option maxRecDepth 100000
def rt (o : Or) : Sr.Rt := ⟨o.id, o.mb, o.ty, o.pr, o.vi, o.hi, o.pk⟩
theorem rz_of {base : Nat} {w : World} {p : Option Addr} {c : Nat} {os : List Or} (h : w.ownsRow base 42 7 (.slice p os.length c) os.length (ors os)) : Sr.Rz w p (os.map rt) := by
  intro i hi
  have hi' : i < os.length := by simpa using hi
  obtain ⟨g, c', e, _, a0, a1, a2, a3, a4, a5, a6⟩ := or_cells h hi'
  obtain rfl := (Value.slice.inj e).1
  have e1 : (os.map rt)[i] = rt os[i] := by simp
  rw [e1]
  exact ⟨g, rfl, (h.lt g rfl).2, a0, a1, a2, a3, a4, a5, a6⟩
/-- a book, as it is told. -/
def bo (b : Bs) (p1 : Option Addr) (c1 : Nat) (p2 : Option Addr) (c2 : Nat) : Sr.Bo := ⟨b.cap, b.meet, p1, c1, (osl b.l1).map rt, p2, c2, (osl b.l2).map rt, b.high, b.seq⟩
theorem bo_ok {b : Bs} (g : Gb b) (k : Snd b) (p1 : Option Addr) (c1 : Nat) (p2 : Option Addr) (c2 : Nat) : Sr.BoOk (bo b p1 c1 p2 c2) := by
  have hS : ∀ s, s = 1 ∨ s = 2 → Sr.SrR s ((osl (b.sl s)).map rt) := fun s hs i hi => by
    have hi' : i + 1 < (b.sl s).length := by simpa [osl] using hi
    have := g.vb.srt s hs i (i + 1) (by omega) hi' (by omega)
    simp only [osl, List.getElem_map, rt]
    exact this
  have hO : ∀ s, ∀ i (hi : i < ((osl (b.sl s)).map rt).length), Sr.RtOk b.high ((osl (b.sl s)).map rt)[i] := fun s i hi => by
    have hi' : i < (b.sl s).length := by simpa [osl] using hi
    have hm : (b.sl s)[i] ∈ b.sl s := List.getElem_mem hi'
    have h1 := g.ids s _ hm
    obtain ⟨a, c, d, e, f, h, j, l, m, n, o⟩ := k.ok s _ hm
    simp only [osl, List.getElem_map, rt, Sr.RtOk]
    exact ⟨a, h1, c, d, e, f, h, j, by omega, by omega, m, n, o⟩
  refine ⟨k.cap, g.cap, k.me0, k.me1, ?_, hS 1 (.inl rfl), hS 2 (.inr rfl), fun h1 h2 => ?_, hO 1, hO 2, ?_⟩
  · have := g.len
    unfold lns at this
    simp only [bo, osl, List.length_map]
    omega
  · have h1' : 0 < b.l1.length := by simpa [bo, osl] using h1
    have h2' : 0 < b.l2.length := by simpa [bo, osl] using h2
    have := k.ap (b.l1[0]) (List.getElem_mem h1') (b.l2[0]) (List.getElem_mem h2')
    simp only [bo, osl, List.getElem_map, rt]
    exact this
  · have := g.vb.ids
    unfold Ids at this
    rw [List.map_append] at this
    have e1 : (bo b p1 c1 p2 c2).b.map Sr.Rt.id = b.l1.map (·.2.id) := by simp [bo, osl, rt]
    have e2 : (bo b p1 c1 p2 c2).s.map Sr.Rt.id = b.l2.map (·.2.id) := by simp [bo, osl, rt]
    rw [e1, e2]
    exact this
theorem valid_told {b : Bs} (g : Gb b) (k : Snd b) {base : Nat} {p1 p2 : Option Addr} {c1 c2 : Nat} {w : World} (h1 : w.ownsRow base 42 7 (.slice p1 b.l1.length c1) b.l1.length (ors (osl b.l1))) (h2 : w.ownsRow base 42 7 (.slice p2 b.l2.length c2) b.l2.length (ors (osl b.l2))) :
    Calls Try.prog 10 #[.agg (bkv b (.slice p1 b.l1.length c1) (.slice p2 b.l2.length c2))] w fun e w' => e = .returned (.int .i64 0) ∧ Below w.heap.size w w' := by
  have e1 : (osl b.l1).length = b.l1.length := by simp [osl]
  have e2 : (osl b.l2).length = b.l2.length := by simp [osl]
  have z1 : Sr.Rz w p1 ((osl b.l1).map rt) := rz_of (base := base) (c := c1) (by rw [e1]; exact h1)
  have z2 : Sr.Rz w p2 ((osl b.l2).map rt) := rz_of (base := base) (c := c2) (by rw [e2]; exact h2)
  have := Sr.valid_any (bo b p1 c1 p2 c2) w z1 z2 (bo_ok g k p1 c1 p2 c2)
  have eb : Sr.bor (bo b p1 c1 p2 c2) = bkv b (.slice p1 b.l1.length c1) (.slice p2 b.l2.length c2) := by
    simp [Sr.bor, bo, bkv, osl]
  rw [eb] at this
  exact this
/-- the prices of a told side, place by place. -/
theorem pr_cells {base : Nat} {w : World} {p : Option Addr} {n c : Nat} {os : List Or} (h : w.ownsRow base 42 7 (.slice p n c) n (ors os)) (hn : os.length = n) {i : Nat} (hi : i < n) : ∃ g, p = some ⟨g, 0, none⟩ ∧ g < w.heap.size ∧ w.cell? ⟨g, i * 7 + 3, none⟩ = some (.int .i64 ((os[i]'(by omega)).pr)) := by
  subst hn
  obtain ⟨g, c', e, _, a0, a1, a2, a3, a4, a5, a6⟩ := or_cells h hi
  obtain rfl := (Value.slice.inj e).1
  exact ⟨g, rfl, (h.lt g rfl).2, a3⟩
end Go.Proofs.Ytfgcfiejkjhebaa
