/-
  Messages numbered in their own memory.
-/
import Derived.Test.YtiphgfghdbmlcaaFeT
namespace Go.Proofs.Ytiphgfghdbmlcaa
open Go.RowKit Go.Deep
set_option linter.unusedVariables false
set_option linter.unusedSimpArgs false
set_option maxHeartbeats 4000000
set_option maxRecDepth 100000
theorem uw_rng (x : Int) : 0 ≤ uw x ∧ uw x < 18446744073709551616 := by rw [uw_eq]; omega
theorem uw_id {x : Int} (h : 0 ≤ x ∧ x < 18446744073709551616) : uw x = x := by rw [uw_eq]; omega
theorem uw_succ (x : Int) : IntKind.u64.wrap (uw x + 1) = uw (x + 1) := by show uw (uw x + 1) = _; rw [uw_eq, uw_eq, uw_eq]; omega
theorem uw_add (x y : Int) : uw (uw x + y) = uw (x + y) := by rw [uw_eq, uw_eq, uw_eq]; omega
/-- the first ones have their numbers. -/
def nmi (s : Int) (T : List Dm) (i : Nat) : List Dm := (nmb s T).take i ++ T.drop i
theorem nmi_zero (s : Int) (T : List Dm) : nmi s T 0 = T := by simp [nmi]
theorem nmi_all (s : Int) (T : List Dm) : nmi s T T.length = nmb s T := by
  unfold nmi
  rw [List.take_of_length_le (by rw [nmb_len]; exact Nat.le_refl _), List.drop_length, List.append_nil]
theorem nmi_len (s : Int) (T : List Dm) (i : Nat) (h : i ≤ T.length) : (nmi s T i).length = T.length := by
  unfold nmi
  rw [List.length_append, List.length_take, List.length_drop, nmb_len]; omega
theorem nmi_get (s : Int) (T : List Dm) (i : Nat) (h : i < T.length) : (nmi s T i)[i]? = some T[i] := by
  unfold nmi
  have e : ((nmb s T).take i).length = i := by rw [List.length_take, nmb_len]; omega
  rw [List.getElem?_append_right (by rw [e]; exact Nat.le_refl _), e, Nat.sub_self, List.getElem?_drop, Nat.add_zero]
  exact List.getElem?_eq_getElem h
theorem nmi_succ (s : Int) (T : List Dm) (i : Nat) (h : i < T.length) : nmi s T (i + 1) = (nmi s T i).set i { T[i] with sq := uw (s + i + 1) } := by
  have e : ((nmb s T).take i).length = i := by rw [List.length_take, nmb_len]; omega
  unfold nmi
  rw [List.set_append_right _ _ (by rw [e]; exact Nat.le_refl _), e, Nat.sub_self, List.drop_eq_getElem_cons h, List.set_cons_zero, List.take_succ_eq_append_getElem (by rw [nmb_len]; exact h), nmb_get s T i h]
  simp
theorem dvc_set (Y : List Dm) (i : Nat) (y : Dm) (h : Y[i]? = some y) (v : Int) : dvc (Y.set i { y with sq := v }) = (dvc Y).set (i * 6) (.int .u64 v) := by
  induction Y generalizing i with
  | nil => simp at h
  | cons a Y ih =>
    cases i with
    | zero => simp only [List.getElem?_cons_zero, Option.some.injEq] at h; subst h; simp [dvc]
    | succ i =>
      have := ih i (by simpa using h)
      rw [List.set_cons_succ, dvc_cons, dvc_cons, this, show (i + 1) * 6 = i * 6 + 6 by omega]
      rfl
theorem own_setc {base : Nat} {w : World} {e : TypeId} {size n c g j : Nat} {u : Value} {xs : List Value} (h : w.ownsRow base e size (.slice (some ⟨g, 0, none⟩) n c) n xs) (hj : j < n * size) : (w.setCell ⟨g, j, none⟩ u).ownsRow base e size (.slice (some ⟨g, 0, none⟩) n c) n (xs.set j u) := by
  obtain ⟨h0, ⟨e1, e2⟩ | ⟨g', c', cur, e1, r1, r2, r3, r4, r5, r6⟩⟩ := h
  · cases (Value.slice.inj e1).1
  · have e3 := (Value.slice.inj e1).1
    injection e3 with e3
    injection e3 with e3
    subst e3
    have e2 := (Value.slice.inj e1).2.2
    subst e2
    refine ⟨by rw [List.length_set]; exact h0, .inr ⟨g, c, _, rfl, r1, set_row u r2, r3, r4, by simpa using r5, ?_⟩⟩
    rw [← r6]
    simp [Array.toList_setIfInBounds, List.take_set]
theorem own_at {base : Nat} {w : World} {e : TypeId} {size n c : Nat} {p : Option Addr} {xs : List Value} (h : w.ownsRow base e size (.slice p n c) n xs) (hn : 0 < n) : ∃ g cur, p = some ⟨g, 0, none⟩ ∧ base ≤ g ∧ w.heap[g]? = some (.cells cur e (0, 0)) ∧ n ≤ c ∧ c ≤ maxLen ∧ cur.size = c * size := by
  obtain ⟨h0, ⟨e1, e2⟩ | ⟨g', c', cur, e1, r1, r2, r3, r4, r5, r6⟩⟩ := h
  · omega
  · obtain ⟨rfl, _, rfl⟩ := Value.slice.inj e1
    exact ⟨g', cur, rfl, r1, r2, r3, r4, r5⟩
end Go.Proofs.Ytiphgfghdbmlcaa
