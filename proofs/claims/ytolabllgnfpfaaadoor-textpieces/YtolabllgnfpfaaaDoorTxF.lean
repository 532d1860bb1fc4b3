/-
  Tags behind a slice of one's own; tags that came in.
-/
import Derived.Test.YtolabllgnfpfaaaDoorTxB
import Derived.Laws.AppendOwnNone
import Derived.Laws.OwnMore
import Derived.Deep.MidRow
namespace Go.Proofs.YtolabllgnfpfaaaDoor
open Go.RowKit Go.Deep
set_option linter.unusedVariables false

/-- the cells of tags. -/
def tv : List (Int × List UInt8) → List Value
  | [] => []
  | x :: l => .int .i64 x.1 :: .string ⟨x.2.toArray⟩ :: tv l
theorem tv_len : ∀ l, (tv l).length = l.length * 2
  | [] => rfl
  | x :: l => by simp only [tv, List.length_cons, tv_len l]; omega
theorem tv_append : ∀ a b, tv (a ++ b) = tv a ++ tv b
  | [], b => rfl
  | x :: a, b => by simp only [List.cons_append, tv, tv_append a b]
theorem tv_one (l : List (Int × List UInt8)) : ∀ u ∈ tv l, u.oneCell' = true := by
  induction l with
  | nil => intro u hu; simp [tv] at hu
  | cons x l ih =>
    intro u hu
    simp only [tv, List.mem_cons] at hu
    rcases hu with rfl | rfl | hu
    · rfl
    · rfl
    · exact ih u hu
theorem tv_at : ∀ (l : List (Int × List UInt8)) (i : Nat) (h : i < l.length), (tv l)[i * 2]? = some (.int .i64 (l[i]'h).1) ∧ (tv l)[i * 2 + 1]? = some (.string ⟨(l[i]'h).2.toArray⟩)
  | x :: l, 0, h => by simp [tv]
  | x :: l, i + 1, h => by
    have := tv_at l i (by simpa using h)
    simp only [tv, List.getElem_cons_succ]
    rw [show (i + 1) * 2 = i * 2 + 1 + 1 by omega, List.getElem?_cons_succ, List.getElem?_cons_succ, List.getElem?_cons_succ, List.getElem?_cons_succ]
    exact this
theorem ts_cells {w : World} {b o : Nat} {l : List (Int × List UInt8)} (h : Ts w (some ⟨b, o, none⟩) l) : ∀ j u, (tv l)[j]? = some u → w.cell? ((⟨b, o, none⟩ : Addr).add j) = some u := by
  intro j u hj
  rw [Addr.add_mid]
  obtain ⟨hlt, _⟩ := List.getElem?_eq_some_iff.1 hj
  rw [tv_len] at hlt
  obtain ⟨b', o', e, h0, h1⟩ := h (j / 2) (by omega)
  obtain ⟨rfl, rfl⟩ : b = b' ∧ o = o' := by simpa using e
  have ht := tv_at l (j / 2) (by omega)
  rcases Nat.mod_two_eq_zero_or_one j with hm | hm
  · rw [show j / 2 * 2 = j by omega] at h0 ht
    rw [h0, ← ht.1, hj]
  · rw [show o + j / 2 * 2 + 1 = o + j by omega] at h1
    rw [show j / 2 * 2 + 1 = j by omega] at ht
    rw [h1, ← ht.2, hj]
theorem ts_of_cells {w : World} {b o : Nat} {l : List (Int × List UInt8)} (h : ∀ j u, (tv l)[j]? = some u → w.cell? ⟨b, o + j, none⟩ = some u) : Ts w (some ⟨b, o, none⟩) l := by
  intro i hi
  obtain ⟨h0, h1⟩ := tv_at l i hi
  exact ⟨b, o, rfl, h _ _ h0, by rw [Nat.add_assoc]; exact h _ _ h1⟩
theorem ts_own {w : World} {base g c n : Nat} {l : List (Int × List UInt8)} (hn : n = l.length) (h : w.ownsRow base 64 2 (.slice (some ⟨g, 0, none⟩) n c) n (tv l)) : Ts w (some ⟨g, 0, none⟩) l := by
  subst hn
  refine ts_of_cells fun j u hj => ?_
  obtain ⟨hlt, _⟩ := List.getElem?_eq_some_iff.1 hj
  rw [tv_len] at hlt
  rw [Nat.zero_add, h.cellAt j hlt, hj]
theorem ts_take {w : World} {q : Option Addr} {l : List (Int × List UInt8)} (h : Ts w q l) (k : Nat) : Ts w q (l.take k) := by
  intro i hi
  have hi' : i < l.length := by simp at hi; omega
  obtain ⟨b, o, e, h0, h1⟩ := h i hi'
  exact ⟨b, o, e, by simpa using h0, by simpa using h1⟩
/-- a slice of tags: nil, or somewhere. -/
def Tg (w : World) (q : Option Addr) (cap : Nat) (l : List (Int × List UInt8)) : Prop := Ts w q l ∧ (q = none → l = [] ∧ cap = 0)
theorem Tg.on {w w' : World} {q : Option Addr} {cap : Nat} {l : List (Int × List UInt8)} (h : Tg w q cap l) (hb : Below w.heap.size w w') : Tg w' q cap l := ⟨h.1.on hb, h.2⟩
theorem info28all : (Tryd.prog.info? 64).map (fun i => (i.zero, i.size, i.bytes)) = some (some (.agg #[.int .i64 0, .string ⟨#[]⟩]), 2, 24) := by kernel_rfl
theorem info_parts {t : TypeId} {z : Value} {a b : Nat} (h : (Tryd.prog.info? t).map (fun i => (i.zero, i.size, i.bytes)) = some (some z, a, b)) : ∃ i, Tryd.prog.info? t = some i ∧ i.zero = some z ∧ i.size = a ∧ i.bytes = b := by
  cases hi : Tryd.prog.info? t with
  | none => rw [hi] at h; simp at h
  | some i => rw [hi] at h; simp at h; exact ⟨i, rfl, h.1, h.2.1, h.2.2⟩
/-- tags behind a slice of one's own. -/
theorem wpList_append_tags (w : World) {ops : Array Oper} {rest : List Oper} {o : Oper} {a : Act} {Q : Exit → Act → World → Prop} (hg : o.guard = none) (s x : Operand)
    (ho : o.op = .call { callee := .builtin .append, args := #[s, x], argTypes := #[37, 37] }) (base g n c : Nat) (zs : List (Int × List UInt8)) (hs : a.eval s = .slice (some ⟨g, 0, none⟩) n c) (hown : w.ownsRow base 64 2 (.slice (some ⟨g, 0, none⟩) n c) n (tv zs))
    (q : Option Addr) (cap k : Nat) (xs : List (Int × List UInt8)) (hk : k = xs.length) (hx : a.eval x = .slice q k cap) (hu : Tg w q cap xs) (hn : (n + xs.length) * 24 ≤ 140737488355328) (hbase : base ≤ w.heap.size) (m : Nat) (rs : List (Int × List UInt8)) (hm : m = n + xs.length) (hr : rs = zs ++ xs)
    (h : ∀ g' c' w', w'.ownsRow base 64 2 (.slice (some ⟨g', 0, none⟩) m c') m (tv rs) → Below base w w' → wpList Tryd.prog ops Q rest (a.put o.dst (.slice (some ⟨g', 0, none⟩) m c')) w') :
    wpList Tryd.prog ops Q (o :: rest) a w := by
  subst hm hr hk
  obtain ⟨i0, hi, hz0, hz1, hz2⟩ := info_parts info28all
  cases q with
  | none =>
    obtain ⟨rfl, rfl⟩ := hu.2 rfl
    exact wpList_append_own_none hg s x 37 ho base 64 i0 2 Tryd.underlying37 hi _ n _ hs hown hx (by simpa using h g c w (by simpa using hown) (Below.refl _ _))
  | some ad =>
    have hc : ∀ j u, (tv xs)[j]? = some u → w.cell? (ad.add j) = some u := by
      by_cases h0 : xs = []
      · subst h0; intro j u hj; simp [tv] at hj
      · have hl : 0 < xs.length := by cases xs; exact absurd rfl h0; simp
        obtain ⟨b, o, e, _⟩ := hu.1 0 hl
        obtain rfl : ad = ⟨b, o, none⟩ := by simpa using e
        exact ts_cells hu.1
    refine wpList_append_own w hg s x 37 ho base 64 i0 _ 2 24 Tryd.underlying37 hi hz0 hz1 hz2 rfl (by decide) _ n _ hs hown ad xs.length cap (tv xs) hx (tv_len xs) hc (tv_one xs) (by unfold maxLen; omega) hn hbase ?_
    intro v' w' h1 h2 h3
    have hb : Below base w w' := (Below.refl base w).grown h2 hbase (fun j hj => (hown.lt j hj).1)
    rcases h1.2 with ⟨rfl, _⟩ | ⟨g', c', cur, rfl, _⟩
    · exact absurd (h3.1 rfl).1 (by simp)
    · exact h g' c' w' (by rw [tv_append]; exact h1) hb
end Go.Proofs.YtolabllgnfpfaaaDoor
