/-
  Fields, one by one: plain.
-/
import Derived.Test.YtolabllgnfpfaaaDoorTzA
import Derived.Test.YtolabllgnfpfaaaDoorTyM
namespace Go.Proofs.YtolabllgnfpfaaaDoor
open Go.RowKit Go.Deep Go.Lib Go.Shelf Go.Sort
set_option linter.unusedVariables false

theorem cut_spec (s : List UInt8) : ((61 : UInt8) ∉ s ∧ Lib.cut s [61] = (s, [], false)) ∨ ∃ hd vl, s = hd ++ 61 :: vl ∧ (61 : UInt8) ∉ hd ∧ Lib.cut s [61] = (hd, vl, true) := by
  by_cases h : (61 : UInt8) ∈ s
  · obtain ⟨hd, vl, rfl, hn⟩ := List.eq_append_cons_of_mem h
    exact Or.inr ⟨hd, vl, rfl, hn, cut_at hd vl hn⟩
  · refine Or.inl ⟨h, ?_⟩
    unfold Lib.cut
    rcases Lib.index_spec s [61] with ⟨hm, _⟩ | ⟨i, hi, hl, ho, _⟩
    · rw [hm, if_neg (by omega)]
    · exfalso
      unfold Lib.occAt at ho
      obtain ⟨z, hz⟩ := List.isPrefixOf_iff_prefix.1 ho
      apply h
      have : (61 : UInt8) ∈ s.drop i := by rw [← hz]; simp
      exact List.mem_of_mem_drop this
theorem bodyR_skip (body : List UInt8) : ∀ (seg r : List UInt8) (i g : Nat) (kind : List UInt8) (l : List (Int × List UInt8)), (1 : UInt8) ∉ seg → bodyR body (seg ++ r) i g kind l = bodyR body r (i + seg.length) g kind l
  | [], r, i, g, kind, l, _ => by simp
  | c :: seg, r, i, g, kind, l, h => by
    have h1 : c ≠ 1 := fun e => h (by simp [e])
    rw [List.cons_append, bodyR, if_pos h1, bodyR_skip body seg r (i + 1) g kind l (fun hm => h (List.mem_cons_of_mem _ hm))]
    congr 1
    simp
    omega
/-- one field read. -/
theorem bodyR_field (body seg rest : List UInt8) (g : Nat) (kind : List UInt8) (l : List (Int × List UInt8)) (hR : body.drop g = seg ++ 1 :: rest) (h1 : (1 : UInt8) ∉ seg) :
    bodyR body (body.drop g) g g kind l =
      if (fieldE seg).2 = false then ([], [], g, 3)
      else if g = 0 then (if (kindE (fieldE seg).1).2 ≠ 0 then ([], [], g, (kindE (fieldE seg).1).2) else bodyR body (body.drop (g + seg.length + 1)) (g + seg.length + 1) (g + seg.length + 1) (kindE (fieldE seg).1).1 l)
      else if l.length = 64 then ([], [], g, 2)
      else if fitsE l (fieldE seg).1 ≠ 0 then ([], [], g, fitsE l (fieldE seg).1)
      else bodyR body (body.drop (g + seg.length + 1)) (g + seg.length + 1) (g + seg.length + 1) kind (l ++ [(fieldE seg).1]) := by
  have hrest : body.drop (g + seg.length + 1) = rest := by
    rw [show g + seg.length + 1 = g + (seg.length + 1) by omega, ← List.drop_drop, hR]
    simp
  have hcut : (body.drop g).take (g + seg.length - g) = seg := by rw [hR, show g + seg.length - g = seg.length by omega]; simp
  rw [hrest]
  conv => lhs; rw [hR]
  rw [bodyR_skip body seg (1 :: rest) g g kind l h1, bodyR, if_neg (by simp), hcut]
theorem bodyR_end (body : List UInt8) (kind : List UInt8) (l : List (Int × List UInt8)) (g : Nat) (h : body.length ≤ g) : bodyR body (body.drop g) g g kind l = (kind, l, 0, 0) := by
  rw [List.drop_eq_nil_of_le h, bodyR]
/-- the next field of a body that ends in the byte 1. -/
theorem seg_of (body : List UInt8) (g : Nat) (hg : g < body.length) (hlast : body.getLast? = some 1) : ∃ seg rest, body.drop g = seg ++ 1 :: rest ∧ (1 : UInt8) ∉ seg := by
  have hm : (1 : UInt8) ∈ body.drop g := by
    have hne : body.drop g ≠ [] := by
      intro e
      have := congrArg List.length e
      simp at this
      omega
    have h2 : (body.drop g).getLast? = some 1 := by rw [List.getLast?_drop, if_neg (by omega)]; exact hlast
    exact List.mem_of_getLast? h2
  obtain ⟨a, b, e, hn⟩ := List.eq_append_cons_of_mem hm
  exact ⟨a, b, e, hn⟩
end Go.Proofs.YtolabllgnfpfaaaDoor
