/-
  slices.Clone of bytes.
-/
import Derived.Test.YtioohpdjmamhgaaDoorUnB
import Derived.Test.YtioohpdjmamhgaaDoorHanA
import Derived.Laws.Cover3
namespace Go.Proofs.YtioohpdjmamhgaaDoor
open Go.RowKit Go.Deep Crc
set_option linter.unusedVariables false
set_option linter.unusedSimpArgs false

theorem Sx.pc {w : World} {v : Value} {xs : List Nat} (h : Sx w v xs) : (xs = [] ∧ v = .slice none 0 0) ∨ ∃ ad c, v = .slice (some ad) xs.length c ∧ ∀ j u, (bv xs)[j]? = some u → w.cell? (ad.add j) = some u := by
  rcases h with h | ⟨rfl, ad, cap, rfl⟩ | ⟨b, o, cap, rfl, h⟩
  · exact Or.inl h
  · exact Or.inr ⟨ad, cap, rfl, fun j u hj => by simp [bv] at hj⟩
  · exact Or.inr ⟨_, cap, rfl, bs_add h⟩
/-- bytes behind a slice of one's own. -/
theorem wpList_append_sx (w : World) {ops : Array Oper} {rest : List Oper} {o : Oper} {a : Act} {Q : Exit → Act → World → Prop} (hg : o.guard = none) (s x : Operand)
    (ho : o.op = .call { callee := .builtin .append, args := #[s, x], argTypes := #[22, 22] }) (base g n c : Nat) (zs : List Nat) (hs : a.eval s = .slice (some ⟨g, 0, none⟩) n c) (hown : w.ownsRow base 5 1 (.slice (some ⟨g, 0, none⟩) n c) n (bv zs))
    (u : Value) (xs : List Nat) (hx : a.eval x = u) (hu : Sx w u xs) (hn : n + xs.length ≤ 140737488355328) (hbase : base ≤ w.heap.size) (m : Nat) (rs : List Nat) (hm : m = n + xs.length) (hr : rs = zs ++ xs)
    (h : ∀ g' c' w', w'.ownsRow base 5 1 (.slice (some ⟨g', 0, none⟩) m c') m (bv rs) → Below base w w' → wpList Tryd.prog ops Q rest (a.put o.dst (.slice (some ⟨g', 0, none⟩) m c')) w') :
    wpList Tryd.prog ops Q (o :: rest) a w := by
  subst hm hr
  obtain ⟨i0, hi, hz0, hz1, hz2⟩ := info_parts info5all
  rcases hu.pc with ⟨rfl, rfl⟩ | ⟨ad, c1, rfl, hc⟩
  · exact wpList_append_own_none hg s x 22 ho base 5 i0 1 Tryd.underlying22 hi _ n _ hs hown hx (by simpa using h g c w (by simpa using hown) (Below.refl _ _))
  · refine wpList_append_own w hg s x 22 ho base 5 i0 (.int .u8 0) 1 1 Tryd.underlying22 hi hz0 hz1 hz2 rfl (by decide) _ n _ hs hown ad xs.length c1 (bv xs) hx (by simp [bv_len]) hc (bv_one _) (by unfold maxLen; omega) (by omega) hbase ?_
    intro v' w' h1 h2 h3
    have hb : Below base w w' := (Below.refl base w).grown h2 hbase (fun j hj => (hown.lt j hj).1)
    rcases h1.2 with ⟨rfl, _⟩ | ⟨g', c', cur, rfl, _⟩
    · exact absurd (h3.1 rfl).1 (by simp)
    · exact h g' c' w' (by rw [bv_append]; exact h1) hb

theorem eql_nil (w : World) (a : Option Addr) (l c : Nat) : (binOp .eql 22 (.slice a l c) (.slice none 0 0)).run Tryd.prog w = .ok (.bool a.isNone) w := by
  simp [binOp, run_equal_slice_nil w 22 5 a l c Tryd.underlying22]
/-- a copy: nil of nil, else in memory of its own. -/
def Copy (w0 w : World) (v : Value) (xs : List Nat) : Prop := (xs = [] ∧ v = .slice none 0 0) ∨ ∃ g c, v = .slice (some ⟨g, 0, none⟩) xs.length c ∧ w.ownsRow w0.heap.size 5 1 (.slice (some ⟨g, 0, none⟩) xs.length c) xs.length (bv xs)
set_option maxHeartbeats 1000000 in
set_option maxRecDepth 100000 in
theorem clone_any (v : Value) (xs : List Nat) (w : World) (hn : xs.length ≤ 140737488351232) (hS : Sx w v xs) :
    Calls Tryd.prog 29 #[v] w fun e w' => ∃ v', e = .returned v' ∧ Copy w w' v' xs ∧ Below w.heap.size w w' := by
  have HB0 := hid (show Below w.heap.size w (w.alloc (.cells #[] 5)) from (Below.refl w.heap.size w).alloc (Nat.le_refl _) _)
  have HO := hid (show (w.alloc (.cells #[] 5)).ownsRow w.heap.size 5 1 (.slice (some ⟨w.heap.size, 0, none⟩) 0 0) 0 (bv []) from World.ownsRow_made (base := w.heap.size) (e := 5) (size := 1) w #[] 0 (Nat.le_refl _) (Nat.zero_le _) rfl)
  have HS := hid (hS.to HB0.out)
  rcases hS.pc with ⟨rfl, rfl⟩ | ⟨ad, c, rfl, _⟩
  · clear hS
    have q := eql_nil w none 0 0
    go_enter Tryd.func29, Tryd.ntmps29
    go_wp2
    go_ret
    exact ⟨_, rfl, Or.inl ⟨rfl, rfl⟩, Below.refl _ _⟩
  · clear hS
    have q := eql_nil w (some ad) xs.length c
    go_enter Tryd.func29, Tryd.ntmps29
    go_wp2_with (first
      | (at_builtin; refine wpList_append_sx _ (by rfl) (.tmp 5) (.tmp 6) (by rfl) w.heap.size w.heap.size 0 0 [] (by rfl) HO.out _ xs (by rfl) HS.out (by omega) HB0.out.size xs.length xs (by simp) rfl ?_; intro g1 c1 w1 hown1 hb1; have H1 := hid hown1; have HB1 := hid (HB0.out.trans hb1); clear hown1 hb1))
    go_ret
    exact ⟨_, rfl, Or.inr ⟨_, _, rfl, H1.out⟩, HB1.out⟩
end Go.Proofs.YtioohpdjmamhgaaDoor
