/-
  Contracts: wire.headOf, wire.putLowest, wire.lowest.
-/
import Derived.Test.YtjpkodllemoniaaDoorWiB
import Derived.Laws.CopyOwn
import Derived.Laws.Rows
import Derived.Laws.Tables
namespace Go.Proofs.YtjpkodllemoniaaDoor.Wi
open Go.RowKit Go.Deep Go.Proofs.YtjpkodllemoniaaDoor.Crc
set_option linter.unusedVariables false

/-- bytes as values. -/
def bv (xs : List Nat) : List Value := xs.map fun x => .int .u8 ((x : Nat) : Int)
theorem bv_len (xs : List Nat) : (bv xs).length = xs.length := by simp [bv]
theorem bv_append (xs ys : List Nat) : bv (xs ++ ys) = bv xs ++ bv ys := by simp [bv]
theorem bv_one (xs : List Nat) : ∀ v ∈ bv xs, v.oneCell' = true := by
  intro v h
  simp only [bv, List.mem_map] at h
  obtain ⟨x, _, rfl⟩ := h
  rfl
theorem bv_inj {xs ys : List Nat} (h : bv xs = bv ys) : xs = ys := by
  unfold bv at h
  refine (List.map_inj_right ?_).1 h
  intro x y e
  simp at e
  omega
/-- the lowest bytes of a number. -/
def le : Nat → Nat → List Nat
  | 0, _ => []
  | k + 1, v => v % 256 :: le k (v / 256)
theorem le_len (k v : Nat) : (le k v).length = k := by
  induction k generalizing v with
  | zero => rfl
  | succ k ih => simp [le, ih]
theorem le_snoc (k v : Nat) : le (k + 1) v = le k v ++ [v / 256 ^ k % 256] := by
  induction k generalizing v with
  | zero => simp [le]
  | succ k ih => rw [le, ih, le]; simp [Nat.div_div_eq_div_mul, Nat.pow_succ, Nat.mul_comm]
theorem le_oct (k v : Nat) : Oct (le k v) := by
  induction k generalizing v with
  | zero => intro x h; simp [le] at h
  | succ k ih =>
    intro x h
    simp only [le, List.mem_cons] at h
    rcases h with rfl | h
    · omega
    · exact ih _ x h
theorem set_mid {α : Type} (P R : List α) (a y : α) (n : Nat) (h : n = P.length) : (P ++ a :: R).set n y = P ++ y :: R := by
  subst h
  simp
theorem splice_snoc {α : Type} (L : List α) (o : Nat) (A : List α) (y : α) (h : o + A.length < L.length) : (splice L o A).set (o + A.length) y = splice L o (A ++ [y]) := by
  unfold splice
  have e1 : L.drop (o + A.length) = L[o + A.length] :: L.drop (o + A.length + 1) := List.drop_eq_getElem_cons h
  rw [e1]
  have hl : (L.take o).length = o := by simp; omega
  have e2 : (L.take o ++ (A ++ L[o + A.length] :: L.drop (o + A.length + 1))) = (L.take o ++ A) ++ L[o + A.length] :: L.drop (o + A.length + 1) := by simp
  have e3 : o + A.length = (L.take o ++ A).length := by simp; omega
  rw [e2, set_mid _ _ _ y _ e3]
  simp [Nat.add_assoc]
theorem splice_at {α : Type} (A Z Y : List α) (h : Y.length ≤ Z.length) : splice (A ++ Z) A.length Y = A ++ (Y ++ Z.drop Y.length) := by
  unfold splice
  rw [List.take_left', List.drop_append]
  · simp
  · rfl

set_option maxHeartbeats 1000000 in
set_option maxRecDepth 100000 in
theorem putLowest_any (L : List Value) (t : TypeId) (b o n cap v : Nat) (w : World) (hg : w.heap[b]? = some (.cells L.toArray t (0, 0))) (hfit : o + n ≤ L.length) (hn : n ≤ 8) (hv : v < 18446744073709551616) :
    Calls Tryd.prog 35 #[.slice (some ⟨b, o, none⟩) n cap, .int .u64 (v : Nat)] w fun e w' => e = .returned (.tuple #[]) ∧ w' = w.setRow b (splice L o (bv (le n v))).toArray := by
  have HG := hid hg
  clear hg
  go_enter Tryd.func35, Tryd.ntmps35
  go_wp2_with fail
  go_loopw [1, 4, 7] (fun nv _ iv wr => ∃ (k : Nat), k ≤ n ∧ iv = .int .i64 k ∧ nv = .int .u64 ((v / 256 ^ k : Nat) : Int) ∧ wr = w.setRow b (splice L o (bv (le k v))).toArray) (fun _ _ iv _ => n - (intOf iv).toNat)
  case atStart =>
    refine ⟨0, Nat.zero_le _, rfl, by simp, ?_⟩
    have : splice L o (bv (le 0 v)) = L := by simp [splice, le, bv]
    rw [this]
    exact (setRow_self w b L.toArray t (0, 0) HG.out).symm
  case round =>
    obtain ⟨k, hk, rfl, rfl, hwr⟩ := hrel
    have HWR := hid hwr
    obtain ⟨u, hu⟩ : ∃ u, v / 256 ^ k = u := ⟨_, rfl⟩
    rw [hu]
    have u1 : u < 18446744073709551616 := by rw [← hu]; exact Nat.lt_of_le_of_lt (Nat.div_le_self _ _) hv
    by_cases hlt : k < n
    · have hrow : wr.heap[b]? = some (.cells (splice L o (bv (le k v))).toArray t (0, 0)) := by rw [hwr]; exact setRow_heap w b _ _ t _ HG.out
      have hll : (splice L o (bv (le k v))).length = L.length := length_splice L o _ (by rw [bv_len, le_len]; omega)
      obtain ⟨y0, hy0⟩ : ∃ y0, wr.cell? ⟨b, o + k, none⟩ = some y0 := by
        rw [cell_of_row wr b (o + k) _ t _ hrow]
        exact ⟨_, by rw [List.getElem?_toArray]; exact List.getElem?_eq_getElem (by omega)⟩
      have hfz : wr.frozen? ⟨b, o + k, none⟩ = false := frozen_of_row wr b (o + k) _ t hrow
      have i0 : (0 : Int) ≤ (k : Int) := by omega
      have i1 : (k : Int) < (n : Int) := by omega
      obtain ⟨x, hx⟩ : ∃ x, u % 256 = x := ⟨_, rfl⟩
      obtain ⟨u2, hu2⟩ : ∃ x, u / 256 = x := ⟨_, rfl⟩
      have e1 : IntKind.u8.wrap (u : Int) = (x : Int) := by
        have : IntKind.u8.wrap (u : Int) = (u : Int) % 256 := by simp [IntKind.wrap, IntKind.bits, IntKind.signed]
        rw [this]; omega
      have e2 : (u : Int) / 256 = (u2 : Int) := by omega
      have HN := hid (show v / 256 ^ (k + 1) = u2 by rw [Nat.pow_succ, ← Nat.div_div_eq_div_mul, hu, hu2])
      have HW2 := hid (show wr.setCell ⟨b, o + k, none⟩ (.int .u8 (x : Int)) = w.setRow b (splice L o (bv (le (k + 1) v))).toArray by
        rw [setCell_eq_setRow wr b (o + k) _ t _ _ hrow, hwr, setRow_setRow]
        congr 1
        rw [List.setIfInBounds_toArray]
        congr 1
        have := splice_snoc L o (bv (le k v)) (.int .u8 (x : Int)) (by rw [bv_len, le_len]; omega)
        rw [bv_len, le_len] at this
        rw [this, le_snoc, bv_append, hu, hx]
        rfl)
      clear hx hu2 hrow hll hwr hu HWR
      go_wp2
      go_roundw
      case rel => exact ⟨k + 1, by omega, by go_num, by rw [HN.out], HW2.out⟩
      case measure => simp [intOf]; omega
    · have hk' : k = n := by omega
      subst hk'
      clear hwr hu
      go_wp2
      go_end0
      exact ⟨rfl, HWR.out⟩
end Go.Proofs.YtjpkodllemoniaaDoor.Wi
