/-
  Interests in memory; the small calls.
-/
import Derived.Test.YtknikhoobhgidaaAuP
namespace Go.Proofs.Ytknikhoobhgidaa
open Go.RowKit Go.Deep
set_option linter.unusedVariables false
set_option linter.unusedSimpArgs false
set_option maxHeartbeats 1000000
set_option maxRecDepth 100000
def irow (x : It) : Array Value := #[.int .u64 x.id, .int .u32 x.mb, .int .i64 x.sd, .int .i64 x.ty, .int .i64 x.pr, .int .u64 x.qt]
def its (l : List It) : List Value := l.flatMap fun x => (irow x).toList
theorem its_len (l : List It) : (its l).length = l.length * 6 := by
  induction l with
  | nil => rfl
  | cons x l ih => simp only [its, List.flatMap_cons, List.length_append, List.length_cons] at ih ⊢; rw [ih]; simp [irow]; omega
theorem its_get {l : List It} {i j : Nat} (hi : i < l.length) (hj : j < 6) : (its l)[i * 6 + j]? = (irow l[i]).toList[j]? := by
  induction l generalizing i with
  | nil => simp at hi
  | cons x l ih =>
    have hx : (irow x).toList.length = 6 := rfl
    cases i with
    | zero =>
      simp only [its, List.flatMap_cons, Nat.zero_mul, Nat.zero_add, List.getElem_cons_zero]
      rw [List.getElem?_append_left (by rw [hx]; omega)]
    | succ i =>
      have := ih (i := i) (by simpa using hi)
      simp only [its, List.flatMap_cons, List.getElem_cons_succ] at this ⊢
      rw [List.getElem?_append_right (by rw [hx]; omega), hx, show (i + 1) * 6 + j - 6 = i * 6 + j by omega]
      exact this
theorem irow_one (x : It) : ∀ u ∈ (irow x).toList, u.oneCell' = true := by
  intro v hv
  simp only [irow, List.mem_cons, List.not_mem_nil, or_false] at hv
  rcases hv with rfl | rfl | rfl | rfl | rfl | rfl <;> rfl
theorem its_one (l : List It) : ∀ u ∈ its l, u.oneCell' = true := by
  intro u hu
  simp only [its, List.mem_flatMap] at hu
  obtain ⟨x, _, hx⟩ := hu
  exact irow_one x u hx
theorem its_app (a b : List It) : its (a ++ b) = its a ++ its b := by simp [its]
theorem its_take (l : List It) (n : Nat) : (its l).take (n * 6) = its (l.take n) := by
  induction l generalizing n with
  | nil => simp [its]
  | cons x l ih =>
    cases n with
    | zero => simp [its]
    | succ n =>
      have := ih n
      simp only [its, List.flatMap_cons, List.take_succ_cons] at this ⊢
      rw [List.take_append, List.take_of_length_le (by simp [irow]; omega), show (n + 1) * 6 - (irow x).toList.length = n * 6 by simp [irow]; omega, this]
theorem its_drop (l : List It) (n : Nat) : (its l).drop (n * 6) = its (l.drop n) := by
  induction l generalizing n with
  | nil => simp [its]
  | cons x l ih =>
    cases n with
    | zero => simp [its]
    | succ n =>
      have := ih n
      simp only [its, List.flatMap_cons, List.drop_succ_cons] at this ⊢
      rw [List.drop_append, List.drop_of_length_le (by simp [irow]; omega), show (n + 1) * 6 - (irow x).toList.length = n * 6 by simp [irow]; omega, this, List.nil_append]
theorem own_form {base : Nat} {w : World} {e : TypeId} {size n : Nat} {v : Value} {xs : List Value} (h : w.ownsRow base e size v n xs) : ∃ p c, v = .slice p n c := by
  obtain ⟨_, ⟨rfl, rfl⟩ | ⟨g, c, cur, rfl, _⟩⟩ := h
  · exact ⟨none, 0, rfl⟩
  · exact ⟨_, _, rfl⟩
theorem grown_refl (w : World) (r : Option Nat) : w.grownBy w r := ⟨rfl, rfl, rfl, Nat.le_refl _, fun _ _ _ => rfl⟩
/-- interests in a slice of one's own. -/
def Li (w : World) (p : Option Addr) (c : Nat) (l : List It) : Prop := w.ownsRow 0 36 6 (.slice p l.length c) l.length (its l)
theorem Li.on {w w' : World} {p : Option Addr} {c : Nat} {l : List It} (h : Li w p c l) (hb : Below w.heap.size w w') : Li w' p c l := own_on h hb
theorem Li.nil (w : World) : Li w none 0 [] := ⟨rfl, .inl ⟨rfl, rfl⟩⟩
theorem Li.same {w w' : World} {p : Option Addr} {c : Nat} {l : List It} (h : Li w p c l) (hs : ∀ g, OfP p g → w'.heap[g]? = w.heap[g]?) : Li w' p c l :=
  own_same h (fun g hg => hs g (by
    obtain ⟨_, ⟨e, _⟩ | ⟨g', c', cur, e, _⟩⟩ := h
    · rw [e] at hg; cases hg
    · have e5 := (Value.slice.inj e).1
      rw [e] at hg; cases hg
      exact e5))
theorem Li.ty {w : World} {p : Option Addr} {c : Nat} {l : List It} (h : Li w p c l) {g : Nat} (hg : OfP p g) : ∃ cur, w.heap[g]? = Option.some (Obj.cells cur 36 (0, 0)) := by
  subst hg; exact own_ty h rfl
theorem Li.kept {w w' : World} {B : Nat → Prop} {p : Option Addr} {c : Nat} {l : List It} (h : Li w p c l) (hk : Kp B w w') (h1 : ∀ g, OfP p g → ¬ B g) : Li w' p c l :=
  h.same (fun g hg => by obtain ⟨cur, e⟩ := h.ty hg; exact hk.obj g (row_lt e) (h1 g hg))
theorem Li.some {w : World} {p : Option Addr} {c : Nat} {l : List It} (h : Li w p c l) (hl : 0 < l.length) : ∃ g cur, p = Option.some ⟨g, 0, none⟩ ∧ w.heap[g]? = Option.some (.cells cur 36 (0, 0)) ∧ cur.size = c * 6 ∧ l.length ≤ c ∧ c ≤ maxLen ∧ cur.toList.take (l.length * 6) = its l := by
  obtain ⟨h1, ⟨e, e2⟩ | ⟨g, c', cur, e, r1, r2, r3, r4, r5, r6⟩⟩ := h
  · omega
  · obtain ⟨rfl, _, rfl⟩ := Value.slice.inj e
    exact ⟨g, cur, rfl, r2, r5, r3, r4, r6⟩
theorem Li.cells {w : World} {p : Option Addr} {c : Nat} {l : List It} (h : Li w p c l) {i : Nat} (hi : i < l.length) : ∃ g, p = Option.some ⟨g, 0, none⟩ ∧ w.cell? ⟨g, i * 6, none⟩ = Option.some (.int .u64 l[i].id) ∧ w.cell? ⟨g, i * 6 + 1, none⟩ = Option.some (.int .u32 l[i].mb) ∧ w.cell? ⟨g, i * 6 + 2, none⟩ = Option.some (.int .i64 l[i].sd) ∧ w.cell? ⟨g, i * 6 + 3, none⟩ = Option.some (.int .i64 l[i].ty) ∧ w.cell? ⟨g, i * 6 + 4, none⟩ = Option.some (.int .i64 l[i].pr) ∧ w.cell? ⟨g, i * 6 + 5, none⟩ = Option.some (.int .u64 l[i].qt) := by
  obtain ⟨g, cur, rfl, r, _, _, _, hc⟩ := h.some (by omega)
  have go : ∀ j, j < 6 → w.cell? ⟨g, i * 6 + j, none⟩ = (irow l[i]).toList[j]? := fun j hj => by
    have := congrArg (fun z => z[i * 6 + j]?) hc
    have hlt : i * 6 + j < l.length * 6 := by omega
    simp only [List.getElem?_take, hlt, if_true, Array.getElem?_toList] at this
    rw [row_cell r, this, its_get hi hj]
  exact ⟨g, rfl, go 0 (by omega), go 1 (by omega), go 2 (by omega), go 3 (by omega), go 4 (by omega), go 5 (by omega)⟩
theorem Li.cap {w : World} {p : Option Addr} {c : Nat} {l : List It} (h : Li w p c l) : l.length ≤ c ∧ c < 9223372036854775808 := by
  obtain ⟨h1, ⟨e, e2⟩ | ⟨g, c', cur, e, r1, r2, r3, r4, r5, r6⟩⟩ := h
  · obtain ⟨_, _, rfl⟩ := Value.slice.inj e; omega
  · obtain ⟨_, _, rfl⟩ := Value.slice.inj e; unfold maxLen at r4; omega
theorem Li.none' {w : World} {c : Nat} {l : List It} (h : Li w none c l) : l = [] ∧ c = 0 := by
  obtain ⟨h1, ⟨e, e2⟩ | ⟨g, c', cur, e, _⟩⟩ := h
  · obtain ⟨_, h2, rfl⟩ := Value.slice.inj e; exact ⟨List.length_eq_zero_iff.1 h2, rfl⟩
  · cases (Value.slice.inj e).1
/-- a price is a tick. -/
def isP (p : Int) : Bool := decide (0 ≤ p ∧ p < 262144)
theorem isPrice_any (p : Int) (w : World) : Calls Try.prog 32 #[.int .i64 p] w fun e w' => e = .returned (.bool (isP p)) ∧ w' = w := by
  by_cases h1 : 0 ≤ p
  · go_enter Try.func32, Try.ntmps32
    go_wp2
    go_ret
    exact ⟨by simp [isP, h1], rfl⟩
  · have hf : isP p = false := by simp only [isP, decide_eq_false_iff_not]; omega
    rw [hf]
    go_enter Try.func32, Try.ntmps32
    go_wp2
    go_ret
    exact ⟨rfl, rfl⟩
def isS (s : Int) : Bool := decide (s = 1 ∨ s = 2)
theorem isSide_any (s : Int) (w : World) : Calls Try.prog 26 #[.int .i64 s] w fun e w' => e = .returned (.bool (isS s)) ∧ w' = w := by
  by_cases h1 : s = 1
  · subst h1
    go_enter Try.func26, Try.ntmps26
    go_wp2
    go_ret
    exact ⟨by simp [isS], rfl⟩
  · have h2 : (s == 1) = false := by simpa using h1
    go_enter Try.func26, Try.ntmps26
    go_wp2
    go_ret
    refine ⟨?_, rfl⟩
    have : isS s = (s == 2) := by simp [isS, h1]; rfl
    rw [this]; rfl
theorem of1 (B : Nat) (w : World) : Calls Try.prog 28 #[.pointer (some ⟨B, 0, none⟩), .int .i64 1] w fun e w' => e = .returned (.pointer (some ⟨B, 2, none⟩)) ∧ w' = w := by
  go_enter Try.func28, Try.ntmps28
  go_wp2
  go_ret
  exact ⟨rfl, rfl⟩
theorem of2 (B : Nat) (w : World) : Calls Try.prog 28 #[.pointer (some ⟨B, 0, none⟩), .int .i64 2] w fun e w' => e = .returned (.pointer (some ⟨B, 3, none⟩)) ∧ w' = w := by
  go_enter Try.func28, Try.ntmps28
  go_wp2
  go_ret
  exact ⟨rfl, rfl⟩
theorem ahead_any (x y : It) (w : World) : Calls Try.prog 57 #[.agg #[.int .u64 x.id, .int .u32 x.mb, .int .i64 x.sd, .int .i64 x.ty, .int .i64 x.pr, .int .u64 x.qt], .agg #[.int .u64 y.id, .int .u32 y.mb, .int .i64 y.sd, .int .i64 y.ty, .int .i64 y.pr, .int .u64 y.qt]] w fun e w' => e = .returned (.bool (ahd x y)) ∧ Below w.heap.size w w' := by
  by_cases h1 : x.ty = y.ty
  · by_cases h2 : x.sd = 1
    · have q1 : (x.ty != y.ty) = false := by simpa using h1
      have q2 : (x.sd == 1) = true := by simpa using h2
      have H := hid (show ahd x y = decide (y.pr < x.pr) by simp [ahd, h1, h2])
      clear h1 h2
      go_enter Try.func57, Try.ntmps57
      go_wp2
      go_ret
      exact ⟨by rw [H.out]; rfl, btr (ball _ _) (ball _ _)⟩
    · have q1 : (x.ty != y.ty) = false := by simpa using h1
      have q2 : (x.sd == 1) = false := by simpa using h2
      have H := hid (show ahd x y = decide (x.pr < y.pr) by simp [ahd, h1, h2])
      clear h1 h2
      go_enter Try.func57, Try.ntmps57
      go_wp2
      go_ret
      exact ⟨by rw [H.out]; rfl, btr (ball _ _) (ball _ _)⟩
  · have q1 : (x.ty != y.ty) = true := by simpa using h1
    have H := hid (show ahd x y = (x.ty == 2) by simp [ahd, h1])
    clear h1
    go_enter Try.func57, Try.ntmps57
    go_wp2
    go_ret
    exact ⟨by rw [H.out]; rfl, btr (ball _ _) (ball _ _)⟩
theorem accepts_any (x : It) (p : Int) (w : World) : Calls Try.prog 69 #[.agg #[.int .u64 x.id, .int .u32 x.mb, .int .i64 x.sd, .int .i64 x.ty, .int .i64 x.pr, .int .u64 x.qt], .int .i64 p] w fun e w' => e = .returned (.bool (acc p x)) ∧ Below w.heap.size w w' := by
  by_cases h1 : x.ty = 2
  · have q1 : (x.ty == 2) = true := by simpa using h1
    have H := hid (show acc p x = true by simp [acc, h1])
    clear h1
    go_enter Try.func69, Try.ntmps69
    go_wp2
    go_ret
    exact ⟨by rw [H.out]; rfl, ball _ _⟩
  · have q1 : (x.ty == 2) = false := by simpa using h1
    by_cases h2 : x.sd = 1
    · have q2 : (x.sd == 1) = true := by simpa using h2
      have H := hid (show acc p x = decide (p ≤ x.pr) by simp [acc, h1, h2])
      clear h1 h2
      go_enter Try.func69, Try.ntmps69
      go_wp2
      go_ret
      exact ⟨by rw [H.out]; rfl, ball _ _⟩
    · have q2 : (x.sd == 1) = false := by simpa using h2
      have H := hid (show acc p x = decide (x.pr ≤ p) by simp [acc, h1, h2])
      clear h1 h2
      go_enter Try.func69, Try.ntmps69
      go_wp2
      go_ret
      exact ⟨by rw [H.out]; rfl, ball _ _⟩
end Go.Proofs.Ytknikhoobhgidaa
