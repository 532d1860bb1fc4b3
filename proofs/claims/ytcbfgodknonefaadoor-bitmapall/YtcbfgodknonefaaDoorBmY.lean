/-
  Slices of whole numbers of one's own.
-/
import Derived.Test.YtcbfgodknonefaaDoorBmW
import Derived.Deep.AppendLies
import Derived.Deep.RegionHeld3
import Derived.Deep.RegionWith
import Derived.Laws.AppendOwnNone
import Derived.Laws.OwnMore
namespace Go.Proofs.YtcbfgodknonefaaDoor
open Go.RowKit Go.Deep Bt
set_option linter.unusedVariables false
set_option maxRecDepth 100000
set_option maxHeartbeats 2000000

def iv (xs : List Int) : List Value := xs.map fun x => Value.int .i64 x
theorem iv_len (xs : List Int) : (iv xs).length = xs.length := by simp [iv]
theorem iv_append (xs ys : List Int) : iv (xs ++ ys) = iv xs ++ iv ys := by simp [iv]
theorem iv_one (xs : List Int) : ∀ u ∈ iv xs, u.oneCell' = true := by
  intro u hu
  simp only [iv, List.mem_map] at hu
  obtain ⟨x, _, rfl⟩ := hu
  rfl
theorem iv_get (xs : List Int) (i : Nat) (h : i < xs.length) : (iv xs)[i]? = some (.int .i64 xs[i]) := by simp [iv, h]
theorem info3all : (Tryd.prog.info? 3).map (fun i => (i.zero, i.size, i.bytes)) = some (some (.int .i64 0), 1, 8) := by kernel_rfl
/-- a slice that may be read. -/
def Ir (w : World) (v : Value) (xs : List Int) : Prop :=
  (xs = [] ∧ v = .slice none 0 0) ∨ (xs = [] ∧ ∃ ad cap, v = .slice (some ad) 0 cap) ∨ ∃ b o cap, v = .slice (some ⟨b, o, none⟩) xs.length cap ∧ ∀ i (h : i < xs.length), w.cell? ⟨b, o + i, none⟩ = some (.int .i64 xs[i])
theorem Ir.pc {w : World} {v : Value} {xs : List Int} (h : Ir w v xs) : (xs = [] ∧ v = .slice none 0 0) ∨ ∃ ad c, v = .slice (some ad) xs.length c ∧ ∀ j u, (iv xs)[j]? = some u → w.cell? (ad.add j) = some u := by
  rcases h with h | ⟨rfl, ad, cap, rfl⟩ | ⟨b, o, cap, rfl, hc⟩
  · exact Or.inl h
  · exact Or.inr ⟨ad, cap, rfl, fun j u hj => by simp [iv] at hj⟩
  · refine Or.inr ⟨_, cap, rfl, fun j u hj => ?_⟩
    have hl : j < xs.length := by
      obtain ⟨h1, _⟩ := List.getElem?_eq_some_iff.1 hj
      rwa [iv_len] at h1
    rw [Addr.add_mid, hc j hl, ← hj, iv_get xs j hl]
theorem owns_room {w : World} {base g n cap : Nat} {e : TypeId} {size : Nat} {xs : List Value} (h : w.ownsRow base e size (.slice (some ⟨g, 0, none⟩) n cap) n xs) : base ≤ g ∧ g < w.heap.size ∧ n ≤ cap := by
  rcases h.2 with ⟨e1, _⟩ | ⟨g', cap', cur, e1, hb, hg, r, _⟩
  · cases e1
  · simp only [Value.slice.injEq, Option.some.injEq, Addr.mk.injEq, and_true, true_and] at e1
    obtain ⟨rfl, rfl⟩ := e1
    exact ⟨hb, (Array.getElem?_eq_some_iff.1 hg).1, r⟩
theorem ir_owns {w : World} {base g n cap : Nat} {zs : List Int} (h : w.ownsRow base 3 1 (.slice (some ⟨g, 0, none⟩) n cap) n (iv zs)) (hn : n = zs.length) (i : Nat) (hi : i < zs.length) : w.cell? ⟨g, i, none⟩ = some (.int .i64 zs[i]) := by
  have := h.cells (g := g) rfl i (.int .i64 zs[i]) (iv_get _ i hi)
  rw [Addr.add_mid] at this
  simpa using this
theorem owns_new (w : World) : (w.alloc (.cells #[] 3)).ownsRow w.heap.size 3 1 (.slice (some ⟨w.heap.size, 0, none⟩) 0 0) 0 (iv []) := by
  refine ⟨rfl, Or.inr ⟨w.heap.size, 0, #[], rfl, Nat.le_refl _, World.alloc_heap_new _ _, Nat.le_refl _, ?_⟩⟩
  simp [iv]
/-- whole numbers behind a slice of one's own, as one operation. -/
theorem wp_append_ir {o : Oper} {a : Act} {w : World} {K : Act → World → Prop} {Q : Exit → Act → World → Prop} (s x : Operand)
    (ho : o.op = .call { callee := .builtin .append, args := #[s, x], argTypes := #[29, 29] }) (base g n c : Nat) (zs : List Int) (hs : a.eval s = .slice (some ⟨g, 0, none⟩) n c) (hown : w.ownsRow base 3 1 (.slice (some ⟨g, 0, none⟩) n c) n (iv zs))
    (u : Value) (xs : List Int) (hx : a.eval x = u) (hu : Ir w u xs) (hn : (n + xs.length) * 8 ≤ 140737488355328) (hbase : base ≤ w.heap.size) (m : Nat) (rs : List Int) (hm : m = n + xs.length) (hr : rs = zs ++ xs)
    (h : ∀ g' c' w', w'.ownsRow base 3 1 (.slice (some ⟨g', 0, none⟩) m c') m (iv rs) → Below base w w' → K (a.put o.dst (.slice (some ⟨g', 0, none⟩) m c')) w') :
    Oper.wp Tryd.prog o a w K Q := by
  subst hm hr
  obtain ⟨i0, hi, hz0, hz1, hz2⟩ := info_parts info3all
  rcases hu.pc with ⟨rfl, rfl⟩ | ⟨ad, c1, rfl, hc⟩
  · have hrun := run_append_owned_none (P := Tryd.prog) (w := w) base 29 o.type 3 i0 1 Tryd.underlying29 hi _ n _ hown
    have hk : K (a.put o.dst (.slice (some ⟨g, 0, none⟩) n c)) w := by simpa using h g c w (by simpa using hown) (Below.refl _ _)
    unfold Oper.wp
    simp [execOp, ho, resolve, invoke, builtin, hs, hx, hrun, Result.andThen]
    exact hk
  · refine wp_append_own w s x 29 ho base 3 i0 (.int .i64 0) 1 8 Tryd.underlying29 hi hz0 hz1 hz2 rfl (by decide) _ n _ hs hown ad xs.length c1 (iv xs) hx (by simp [iv_len]) hc (iv_one _) (by unfold maxLen; omega) (by omega) hbase ?_
    intro v' w' h1 h2 h3
    have hb : Below base w w' := (Below.refl base w).grown h2 hbase (fun j hj => (hown.lt j hj).1)
    rcases h1.2 with ⟨rfl, _⟩ | ⟨g', c', cur, rfl, _⟩
    · exact absurd (h3.1 rfl).1 (by simp)
    · exact h g' c' w' (by rw [iv_append]; exact h1) hb
theorem step_append_ir {ops : Array Oper} {o : Oper} {a : Act} {w : World} {K : Act → World → Prop} {Q : Exit → Act → World → Prop} {E : Prop} (hg : o.guard = none) (s x : Operand)
    (ho : o.op = .call { callee := .builtin .append, args := #[s, x], argTypes := #[29, 29] }) (base g n c : Nat) (zs : List Int) (hs : a.eval s = .slice (some ⟨g, 0, none⟩) n c) (hown : w.ownsRow base 3 1 (.slice (some ⟨g, 0, none⟩) n c) n (iv zs))
    (u : Value) (xs : List Int) (hx : a.eval x = u) (hu : Ir w u xs) (hn : (n + xs.length) * 8 ≤ 140737488355328) (hbase : base ≤ w.heap.size) (m : Nat) (rs : List Int) (hm : m = n + xs.length) (hr : rs = zs ++ xs)
    (h : ∀ g' c' w', w'.ownsRow base 3 1 (.slice (some ⟨g', 0, none⟩) m c') m (iv rs) → Below base w w' → K (a.put o.dst (.slice (some ⟨g', 0, none⟩) m c')) w') :
    if Region.wanted o (yielded ops a.tmps) = true then Oper.wp Tryd.prog o a w K Q else E := by
  have hw : Region.wanted o (yielded ops a.tmps) = true := by simp [Region.wanted, hg]
  rw [if_pos hw]
  exact wp_append_ir s x ho base g n c zs hs hown u xs hx hu hn hbase m rs hm hr h
theorem wpList_append_ir {ops : Array Oper} {rest : List Oper} {o : Oper} {a : Act} {w : World} {Q : Exit → Act → World → Prop} (hg : o.guard = none) (s x : Operand)
    (ho : o.op = .call { callee := .builtin .append, args := #[s, x], argTypes := #[29, 29] }) (base g n c : Nat) (zs : List Int) (hs : a.eval s = .slice (some ⟨g, 0, none⟩) n c) (hown : w.ownsRow base 3 1 (.slice (some ⟨g, 0, none⟩) n c) n (iv zs))
    (u : Value) (xs : List Int) (hx : a.eval x = u) (hu : Ir w u xs) (hn : (n + xs.length) * 8 ≤ 140737488355328) (hbase : base ≤ w.heap.size) (m : Nat) (rs : List Int) (hm : m = n + xs.length) (hr : rs = zs ++ xs)
    (h : ∀ g' c' w', w'.ownsRow base 3 1 (.slice (some ⟨g', 0, none⟩) m c') m (iv rs) → Below base w w' → wpList Tryd.prog ops Q rest (a.put o.dst (.slice (some ⟨g', 0, none⟩) m c')) w') : wpList Tryd.prog ops Q (o :: rest) a w :=
  wpList_plain hg fun _ hK => wp_append_ir s x ho base g n c zs hs hown u xs hx hu hn hbase m rs hm hr fun g' c' w' h1 h2 => hK _ _ (h g' c' w' h1 h2)
end Go.Proofs.YtcbfgodknonefaaDoor
