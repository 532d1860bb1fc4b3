/-
  A reader and the lines that it told, side by side.
-/
import Derived.Test.YtolabllgnfpfaaaDoorTpD
import Derived.Test.YtolabllgnfpfaaaDoorTrX
import Derived.Deep.AppendLies
namespace Go.Proofs.YtolabllgnfpfaaaDoor
open Go.RowKit Go.Deep Go.Lib Go.Shelf Go.Sort
set_option linter.unusedVariables false
set_option linter.unusedSimpArgs false

/-- a reader in block R that holds l, and a slice of one's own with the lines so far. -/
structure LinR (w0 : World) (R : Nat) (l : List UInt8) (hv : Value) (v : Value) (acc : List (List UInt8)) (w : World) : Prop where
  rd : RdG w0.heap.size w R l hv
  os : w.ownsRow w0.heap.size 9 1 v acc.length (sv acc)
  apart : ∀ k, v.ownBlock = some k → k ≠ R ∧ hv.ownBlock ≠ some k
  bel : Below w0.heap.size w0 w
theorem ownsS_same {B n : Nat} {w w' : World} {v : Value} {xs : List Value} (h : w.ownsRow B 9 1 v n xs) (hs : ∀ g, v.ownBlock = some g → w'.heap[g]? = w.heap[g]?) : w'.ownsRow B 9 1 v n xs := by
  obtain ⟨h1, h2⟩ := h
  refine ⟨h1, ?_⟩
  rcases h2 with h2 | ⟨r, cap, cur, e, hr, hc, k⟩
  · exact Or.inl h2
  · exact Or.inr ⟨r, cap, cur, e, hr, (hs r (by rw [e]; rfl)).trans hc, k⟩
theorem LinR.on {w0 w w' : World} {R : Nat} {l : List UInt8} {hv v : Value} {acc : List (List UInt8)} (h : LinR w0 R l hv v acc w) (hb : Below w.heap.size w w') : LinR w0 R l hv v acc w' :=
  ⟨h.rd.to hb, ownsS_same h.os (fun g e => hb.block g (h.os.lt g e).2), h.apart, h.bel.trans (hb.mono h.bel.size)⟩
/-- the reader went on; what was told stays. -/
theorem LinR.went {w0 w w' : World} {R : Nat} {l l' : List UInt8} {hv hv' v : Value} {acc : List (List UInt8)} (h : LinR w0 R l hv v acc w)
    (r : RdG w0.heap.size w' R l' hv') (ow : hv'.ownBlock = hv.ownBlock ∨ ∀ g, hv'.ownBlock = some g → w.heap.size ≤ g) (b : Below w0.heap.size w w') (s : w.heap.size ≤ w'.heap.size)
    (oth : ∀ b, b < w.heap.size → ¬ b = R → ¬ hv.ownBlock = some b → w'.heap[b]? = w.heap[b]?) : LinR w0 R l' hv' v acc w' := by
  refine ⟨r, ownsS_same h.os (fun g e => oth g (h.os.lt g e).2 (h.apart g e).1 (h.apart g e).2), fun k e => ⟨(h.apart k e).1, fun e2 => ?_⟩, h.bel.trans b⟩
  rcases ow with ow | ow
  · rw [ow] at e2; exact (h.apart k e).2 e2
  · have := ow k e2
    have := (h.os.lt k e).2
    omega
theorem LinR.start {w w1 : World} (h : RdG w.heap.size w1 w.heap.size [] (.slice none 0 0)) (hb : Below w.heap.size w w1) : LinR w w.heap.size [] (.slice none 0 0) (.slice none 0 0) [] w1 :=
  ⟨h, World.ownsRow_nil _ _ _ _, fun k e => (by cases e), hb⟩
/-- one line behind those that were told. -/
theorem lin_str {ops : Array Oper} {rest : List Oper} {o : Oper} {a : Act} {Q : Exit → Act → World → Prop} (hgd : o.guard = none) (sl x : Operand)
    (ho : o.op = .call { callee := .builtin .append, args := #[sl, x], argTypes := #[45, 45] }) (w0 : World) (R : Nat) (l : List UInt8) (hv v : Value) (acc : List (List UInt8)) (w : World) (s : List UInt8) (hb0 : LinR w0 R l hv v acc w) (hs : a.eval sl = v) (hx : a.eval x = .slice (some ⟨w.heap.size, 0, none⟩) 1 1) (hlen : acc.length ≤ 70000)
    (h : ∀ v' w', LinR w0 R l hv v' (acc ++ [s]) w' → wpList Tryd.prog ops Q rest (a.put o.dst v') w') : wpList Tryd.prog ops Q (o :: rest) a (w.alloc (.cells #[.string ⟨s.toArray⟩] 9)) := by
  obtain ⟨i0, hi, hz0, hz1, hz2⟩ := info_parts info9all
  have hb := hb0.on (ball w (.cells #[.string ⟨s.toArray⟩] 9))
  have hB := hb.bel.size
  refine wpList_append_lies _ hgd sl x 45 ho w0.heap.size 9 i0 (.string ⟨#[]⟩) 1 16 Tryd.underlying45 hi hz0 hz1 hz2 rfl (by decide) v acc.length (sv acc) hs hb.os ⟨w.heap.size, 0, none⟩ 1 1 (sv [s]) hx (by simp [sv]) ?_ (sv_one _) (by decide) (by unfold maxLen; omega) (by omega) hB _ rfl ?_
  · intro j u hj
    rw [Addr.add_mid, Nat.zero_add, World.cell?_alloc_new]
    simpa [sv] using hj
  · intro g cap w' how hg hlie hgl
    refine h _ w' ⟨?_, ?_, ?_, ?_⟩
    · have hlt := hb.rd.lt
      refine hb.rd.same (hg.block R hlt.1 (fun e => (hb.apart R e.symm).1 rfl)) (fun k hk => hg.block k (hlt.2 k hk) (fun e => (hb.apart k e.symm).2 hk))
    · rw [sv_append, List.length_append]
      exact how
    · intro k hk
      have hkg : k = g := by simpa [Value.ownBlock] using hk.symm
      subst hkg
      rcases hlie with hl | hl
      · exact hb.apart k hl
      · have hlt := hb.rd.lt
        refine ⟨by omega, fun e => ?_⟩
        have := hlt.2 k e
        omega
    · exact hb.bel.grown hg hB (fun k hk => (hb.os.lt k hk).1)
end Go.Proofs.YtolabllgnfpfaaaDoor
