/-
  Lives in memory.
-/
import Derived.Test.YtalgndgoedlpoaaRuQc
namespace Go.Proofs.Ytalgndgoedlpoaa
open Go.RowKit Go.Deep Go.Shelf
set_option linter.unusedVariables false
set_option linter.unusedSimpArgs false
set_option maxHeartbeats 4000000
set_option maxRecDepth 100000
def lcs (x : Lf) : List Value := [.int .u64 x.id, .int .u64 x.qy, .int .u64 x.tr, .int .u64 x.ca, .int .i64 x.ky]
def lfs (l : List Lf) : List Value := l.flatMap lcs
theorem lcs_len (x : Lf) : (lcs x).length = 5 := rfl
theorem lfs_len (l : List Lf) : (lfs l).length = l.length * 5 := by
  induction l with
  | nil => rfl
  | cons x l ih => simp only [lfs, List.flatMap_cons, List.length_append, List.length_cons] at ih ⊢; rw [ih, lcs_len]; omega
theorem lfs_snoc (l : List Lf) (x : Lf) : lfs (l ++ [x]) = lfs l ++ lcs x := by simp [lfs]
theorem lcs_one (x : Lf) : ∀ v ∈ lcs x, v.oneCell' = true := by
  intro v hv
  simp only [lcs, List.mem_cons, List.not_mem_nil, or_false] at hv
  rcases hv with rfl | rfl | rfl | rfl | rfl <;> rfl
theorem lfs_get {l : List Lf} {i j : Nat} (hi : i < l.length) (hj : j < 5) : (lfs l)[i * 5 + j]? = (lcs l[i])[j]? := by
  induction l generalizing i with
  | nil => simp at hi
  | cons x l ih =>
    cases i with
    | zero =>
      simp only [lfs, List.flatMap_cons, Nat.zero_mul, Nat.zero_add, List.getElem_cons_zero]
      rw [List.getElem?_append_left (by rw [lcs_len]; omega)]
    | succ i =>
      have := ih (i := i) (by simpa using hi)
      simp only [lfs, List.flatMap_cons, List.getElem_cons_succ] at this ⊢
      rw [List.getElem?_append_right (by rw [lcs_len]; omega), lcs_len, show (i + 1) * 5 + j - 5 = i * 5 + j by omega]
      exact this
theorem lfs_set {l : List Lf} {i j : Nat} {v : Value} {y : Lf} (hi : i < l.length) (hj : j < 5) (hy : lcs y = (lcs l[i]).set j v) : (lfs l).set (i * 5 + j) v = lfs (l.set i y) := by
  induction l generalizing i with
  | nil => simp at hi
  | cons x l ih =>
    cases i with
    | zero =>
      simp only [lfs, List.flatMap_cons, Nat.zero_mul, Nat.zero_add, List.getElem_cons_zero, List.set_cons_zero] at hy ⊢
      rw [List.set_append_left _ _ (by rw [lcs_len]; omega), hy]
    | succ i =>
      have := ih (i := i) (by simpa using hi) (by simpa using hy)
      simp only [lfs, List.flatMap_cons, List.set_cons_succ] at this ⊢
      rw [List.set_append_right _ _ (by rw [lcs_len]; omega), lcs_len, show (i + 1) * 5 + j - 5 = i * 5 + j by omega, this]
/-- lives in memory. -/
def Lv (w : World) (base : Nat) (v : Value) (L : List Lf) : Prop := w.ownsRow base 54 5 v L.length (lfs L)
theorem lf_cells {base : Nat} {w : World} {v : Value} {L : List Lf} (h : Lv w base v L) {i : Nat} (hi : i < L.length) : ∃ g c, v = .slice (some ⟨g, 0, none⟩) L.length c ∧ L.length ≤ maxLen ∧ (∃ cur, w.heap[g]? = some (.cells cur 54 (0, 0))) ∧ ∀ j, j < 5 → w.cell? ⟨g, i * 5 + j, none⟩ = (lcs L[i])[j]? := by
  obtain ⟨h1, ⟨e, e2⟩ | ⟨g, c', cur, e, r1, r2, r3, r4, r5, r6⟩⟩ := h
  · omega
  · refine ⟨g, c', e, Nat.le_trans r3 r4, ⟨cur, r2⟩, fun j hj => ?_⟩
    have := congrArg (fun z => z[i * 5 + j]?) r6
    have hlt : i * 5 + j < L.length * 5 := by omega
    simp only [List.getElem?_take, hlt, if_true, Array.getElem?_toList] at this
    rw [row_cell r2, this, lfs_get hi hj]
theorem lf_set {base : Nat} {w : World} {g c : Nat} {L : List Lf} {v : Value} {y : Lf} (h : Lv w base (.slice (some ⟨g, 0, none⟩) L.length c) L) {i j : Nat} (hi : i < L.length) (hj : j < 5) (hy : lcs y = (lcs L[i]).set j v) :
    Lv (w.setCell ⟨g, i * 5 + j, none⟩ v) base (.slice (some ⟨g, 0, none⟩) L.length c) (L.set i y) := by
  obtain ⟨h1, ⟨e, e2⟩ | ⟨g', c', cur, e, r1, r2, r3, r4, r5, r6⟩⟩ := h
  · omega
  · obtain ⟨e1, _, rfl⟩ := Value.slice.inj e
    injection e1 with e1
    injection e1 with e1 _ _
    subst e1
    refine ⟨by rw [lfs_len], .inr ⟨g, c, cur.setIfInBounds (i * 5 + j) v, by rw [List.length_set], r1, set_row _ r2, by rw [List.length_set]; exact r3, r4, by rw [Array.size_setIfInBounds]; exact r5, ?_⟩⟩
    rw [List.length_set, Array.toList_setIfInBounds, List.take_set, r6, lfs_set hi hj hy]
theorem lfi_is {id : Int} : ∀ {l : List Lf} {i : Nat} (hi : i < l.length), (∀ j (hj : j < l.length), j < i → (l[j]).id ≠ id) → (l[i]).id = id → lfi id l = i
  | x :: l, 0, hi, _, h => by unfold lfi; rw [if_pos (by simpa using h)]; rfl
  | x :: l, i + 1, hi, ha, h => by
    unfold lfi
    have e := lfi_is (l := l) (i := i) (by simpa using hi) (fun j hj hji => by have := ha (j + 1) (by simpa using hj) (by omega); simpa using this) (by simpa using h)
    rw [if_neg (by have := ha 0 (by simp) (by omega); simpa using this), e, if_neg (by omega)]
    omega
theorem find_lf (p : Option Addr) (c base : Nat) (L : List Lf) (id : Int) (w : World) (h : Lv w base (.slice p L.length c) L) :
    Calls Try.prog 38 #[.slice p L.length c, .int .u64 id] w fun e w' => e = .returned (.int .i64 (lfi id L)) ∧ w' = w := by
  obtain ⟨n, hn⟩ : ∃ n, L.length = n := ⟨_, rfl⟩
  have HN := hid hn
  have HL := hid h
  have hmx : n ≤ maxLen := by
    cases L with
    | nil => rw [← hn]; unfold maxLen; simp
    | cons x L => obtain ⟨_, _, _, h, _⟩ := lf_cells h (i := 0) (by simp); rw [← hn]; exact h
  have hn' : n < 9223372036854775808 := by unfold maxLen at hmx; omega
  rw [hn]
  clear hn h hmx
  go_enter Try.func38, Try.ntmps38
  go_wp2_with fail
  go_loopw [5] (fun iv wr => ∃ (i : Nat), i ≤ n ∧ iv = .int .i64 i ∧ wr = w ∧ Hid (∀ j (hj : j < L.length), j < i → (L[j]).id ≠ id)) (fun iv _ => n - (intOf iv).toNat)
  case atStart => exact ⟨0, Nat.zero_le _, rfl, rfl, hid (fun j hj h => by omega)⟩
  case round =>
    obtain ⟨i, hin, rfl, rfl, HB⟩ := hrel
    by_cases hlt : i < n
    · have hil : i < L.length := by rw [HN.out]; exact hlt
      obtain ⟨g, cc, hp, _, _, hcc⟩ := lf_cells HL.out hil
      have hp' := (Value.slice.inj hp).1
      subst hp'
      have c0 := hcc 0 (by omega)
      simp only [lcs, List.getElem?_cons_zero, Nat.add_zero] at c0
      obtain ⟨x, hx⟩ : ∃ x, (L[i]).id = x := ⟨_, rfl⟩
      rw [hx] at c0
      have HX := hid hx
      clear hcc hp hx
      have i0' : (0 : Int) ≤ (i : Int) := by omega
      have i1 : (i : Int) < (n : Int) := by omega
      by_cases he : x = id
      · subst he
        go_wp2
        go_ret
        refine ⟨?_, rfl⟩
        rw [lfi_is hil (fun j hj hji => HB.out j hj hji) HX.out]; rfl
      · have he' : (x == id) = false := by simpa using he
        have HE := hid he
        clear he
        go_wp2
        go_roundw
        case rel => exact ⟨i + 1, by omega, by go_num, trivial, hid (fun j hj h => by
          by_cases e : j = i
          · subst e; rw [HX.out]; exact HE.out
          · exact HB.out j hj (by omega))⟩
        case measure => simp [intOf]; omega
    · obtain rfl : i = n := by omega
      go_wp2
      go_ret
      refine ⟨?_, rfl⟩
      rw [lfi_none (fun x hx => by
        obtain ⟨j, hj, rfl⟩ := List.mem_iff_getElem.1 hx
        exact HB.out j hj (by rw [← HN.out]; exact hj))]; rfl
end Go.Proofs.Ytalgndgoedlpoaa
