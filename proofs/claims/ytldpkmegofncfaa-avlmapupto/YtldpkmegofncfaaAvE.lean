/-
  Ways down and up: step, back, outermost.
-/
import Derived.Test.YtldpkmegofncfaaAvD
namespace Go.Proofs.Ytldpkmegofncfaa
open Go.RowKit Go.Deep
set_option linter.unusedVariables false
set_option linter.unusedSimpArgs false
/-- only one block may have changed. -/
structure Ko (P : Nat) (w w' : World) : Prop where
  os : w'.os = w.os
  tape : w'.tape = w.tape
  out : w'.output = w.output
  size : w.heap.size ≤ w'.heap.size
  obj : ∀ b, b < w.heap.size → b ≠ P → w'.heap[b]? = w.heap[b]?
theorem Ko.refl (P : Nat) (w : World) : Ko P w w := ⟨rfl, rfl, rfl, Nat.le_refl _, fun _ _ _ => rfl⟩
theorem Ko.trans {P : Nat} {a b c : World} (h : Ko P a b) (k : Ko P b c) : Ko P a c :=
  ⟨k.os.trans h.os, k.tape.trans h.tape, k.out.trans h.out, Nat.le_trans h.size k.size, fun x hx hn => (k.obj x (Nat.lt_of_lt_of_le hx h.size) hn).trans (h.obj x hx hn)⟩
theorem Ko.of {P : Nat} {a b : World} (h : Below a.heap.size a b) : Ko P a b := ⟨h.os, h.tape, h.output, h.size, fun x hx _ => h.block x hx⟩
theorem Ko.row {P : Nat} {a b : World} (h : Ko P a b) {g : Nat} {o : Obj} (hg : a.heap[g]? = some o) (hn : g ≠ P) : b.heap[g]? = some o := by
  rw [h.obj g (row_lt hg) hn]; exact hg
theorem Ko.set (P : Nat) (w : World) (k : Nat) (v : Value) : Ko P w (w.setCell ⟨P, k, none⟩ v) := by
  have hb : Below P w (w.setCell ⟨P, k, none⟩ v) := (Below.refl _ _).setCell (Nat.le_refl P) v
  refine ⟨hb.os, hb.tape, hb.output, by simp, ?_⟩
  intro b _ hn
  exact heap_setCell_other _ _ _ _ hn
theorem Ko.drew (P : Nat) (w : World) : Ko P w w.drew := Ko.of (below_drews rfl rfl rfl rfl)
theorem Ko.below {N P : Nat} {a b c : World} (h : Below N a b) (k : Ko P b c) (hN : N ≤ P) (hs : N ≤ b.heap.size) : Below N a c :=
  ⟨k.os.trans h.os, k.tape.trans h.tape, k.out.trans h.output, Nat.le_trans h.size k.size, fun x hx => (k.obj x (by omega) (by omega)).trans (h.block x hx)⟩
/-- a way: the blocks of its nodes. -/
structure Pa (w : World) (P : Nat) (bs : List Nat) : Prop where
  row : ∃ cs : Array Value, w.heap[P]? = some (.cells cs 60 (0, 0)) ∧ cs.size = 45 ∧ cs[44]? = some (.int .i64 bs.length) ∧ ∀ i (h : i < bs.length), cs[i]? = some (.pointer (some ⟨bs[i], 0, none⟩))
  len : bs.length ≤ 44
theorem Pa.lt {w : World} {P : Nat} {bs : List Nat} (h : Pa w P bs) : P < w.heap.size := by
  obtain ⟨cs, h1, _⟩ := h.row; exact row_lt h1
theorem Tr.ko {P : Nat} {w w' : World} {t : T} {p : Option Nat} {bs : List Nat} (h : Tr w t p) (hP : Pa w P bs) (hk : Ko P w w') : Tr w' t p := by
  obtain ⟨cs, h1, _⟩ := hP.row
  refine h.same (fun b c hc => hk.row hc ?_)
  rintro rfl
  rw [h1] at hc
  simp at hc
theorem Pa.on {w w' : World} {P : Nat} {bs : List Nat} (h : Pa w P bs) (hb : Below w.heap.size w w') : Pa w' P bs := by
  obtain ⟨⟨cs, h1, h2⟩, h3⟩ := h
  exact ⟨⟨cs, row_on h1 hb, h2⟩, h3⟩
theorem Pa.drew {w : World} {P : Nat} {bs : List Nat} (h : Pa w P bs) : Pa w.drew P bs := h.on (below_drews rfl rfl rfl rfl)
set_option maxHeartbeats 1000000 in
theorem step_any {w : World} {P : Nat} {bs : List Nat} (h : Pa w P bs) (hl : bs.length < 44) (b : Nat) :
    Calls Try.prog 49 #[.pointer (some ⟨P, 0, none⟩), .pointer (some ⟨b, 0, none⟩)] w fun e w' => e = .returned (.tuple #[]) ∧ Pa w' P (bs ++ [b]) ∧ Ko P w w' := by
  obtain ⟨⟨cs, h1, h2, h3, h4⟩, h5⟩ := h
  have c44 : w.cell? ⟨P, 44, none⟩ = some (.int .i64 bs.length) := by rw [row_cell h1 44]; exact h3
  have f44 : w.frozen? ⟨P, 44, none⟩ = false := frozen_of_row w P 44 _ _ h1
  have fn : w.frozen? ⟨P, bs.length, none⟩ = false := frozen_of_row w P bs.length _ _ h1
  obtain ⟨o, ho⟩ : ∃ o, cs[bs.length]? = some o := ⟨_, Array.getElem?_eq_getElem (by omega)⟩
  have cn : w.cell? ⟨P, bs.length, none⟩ = some o := by rw [row_cell h1 bs.length]; exact ho
  have FIN := hid (show ∀ w', w'.heap[P]? = some (.cells ((cs.setIfInBounds bs.length (.pointer (some ⟨b, 0, none⟩))).setIfInBounds 44 (.int .i64 ((bs.length : Int) + 1))) 60 (0, 0)) → Pa w' P (bs ++ [b]) from by
    intro w' hw
    refine ⟨⟨_, hw, by simp [h2], ?_, ?_⟩, by simp; omega⟩
    · simp [Array.getElem?_setIfInBounds, h2]
    · intro i hi
      simp at hi
      rw [Array.getElem?_setIfInBounds_ne (by omega)]
      by_cases hib : i = bs.length
      · subst hib
        simp [Array.getElem?_setIfInBounds, h2]; omega
      · rw [Array.getElem?_setIfInBounds_ne (by omega)]
        rw [List.getElem_append_left (by omega)]
        exact h4 i (by omega))
  have H1 := hid h1
  have K44 : ∀ v, (w.setCell ⟨P, bs.length, none⟩ v).cell? ⟨P, 44, none⟩ = some (.int .i64 bs.length) := by
    intro v
    rw [row_cell (heap_setCell_same w P bs.length cs 60 v h1), Array.getElem?_setIfInBounds_ne (by omega)]; exact h3
  have K44d : ∀ v, (w.setCell ⟨P, bs.length, none⟩ v).drew.cell? ⟨P, 44, none⟩ = some (.int .i64 bs.length) := K44
  have F44 : ∀ v, (w.setCell ⟨P, bs.length, none⟩ v).drew.frozen? ⟨P, 44, none⟩ = false := fun v => frozen_of_row (w.setCell ⟨P, bs.length, none⟩ v) P 44 _ _ (heap_setCell_same w P bs.length cs 60 v h1)
  obtain ⟨n, hn⟩ : ∃ n, bs.length = n := ⟨_, rfl⟩
  rw [hn] at c44 fn cn FIN hl K44 K44d F44
  have e1 : (n : Int) < 44 := by omega
  have e0 : (0 : Int) ≤ (n : Int) := by omega
  have ne1 : ¬ n = 44 := by omega
  have ne2 : ¬ 44 = n := by omega
  have ct : ((n : Int)).toNat = n := by omega
  clear h1 h2 h3 h4 h5 ho hn hl
  go_enter Try.func49, Try.ntmps49
  go_wp2_with fail
  rename_i K A
  have HK := hid A
  clear A
  go_region_held3 (fun w' => w'.cell? ⟨P, 44, none⟩ = some (.int .i64 n)) (go_keep) (fail)
  refine HK.out _ _ ?_
  go_wp2_with fail
  go_end0
  refine ⟨rfl, FIN.out _ ?_, ((Ko.set _ _ _ _).trans (Ko.set _ _ _ _)).trans (Ko.drew _ _)⟩
  rw [heap_drew]
  exact heap_setCell_same _ P 44 _ 60 _ (heap_setCell_same w P n cs 60 _ H1.out)
set_option maxHeartbeats 1000000 in
theorem back_any {w : World} {P : Nat} {bs : List Nat} {b : Nat} (h : Pa w P (bs ++ [b])) :
    Calls Try.prog 50 #[.pointer (some ⟨P, 0, none⟩)] w fun e w' => e = .returned (.pointer (some ⟨b, 0, none⟩)) ∧ Pa w' P bs ∧ Ko P w w' := by
  obtain ⟨⟨cs, h1, h2, h3, h4⟩, h5⟩ := h
  have h6 : bs.length + 1 ≤ 44 := by simpa using h5
  have c44 : w.cell? ⟨P, 44, none⟩ = some (.int .i64 ((bs.length : Int) + 1)) := by rw [row_cell h1 44, h3]; simp
  have f44 : w.frozen? ⟨P, 44, none⟩ = false := frozen_of_row w P 44 _ _ h1
  have hrow : ∀ v, (w.setCell ⟨P, 44, none⟩ v).heap[P]? = some (.cells (cs.setIfInBounds 44 v) 60 (0, 0)) := fun v => heap_setCell_same w P 44 cs 60 v h1
  have hb := h4 bs.length (by simp)
  simp at hb
  have cn : ∀ v, (w.setCell ⟨P, 44, none⟩ v).cell? ⟨P, bs.length, none⟩ = some (.pointer (some ⟨b, 0, none⟩)) := by
    intro v; rw [row_cell (hrow v), Array.getElem?_setIfInBounds_ne (by omega)]; exact hb
  have cnd : ∀ v, (w.setCell ⟨P, 44, none⟩ v).drew.cell? ⟨P, bs.length, none⟩ = some (.pointer (some ⟨b, 0, none⟩)) := cn
  have ck : ∀ v, (w.setCell ⟨P, 44, none⟩ v).cell? ⟨P, 44, none⟩ = some v := by
    intro v; rw [row_cell (hrow v)]; simp [Array.getElem?_setIfInBounds, h2]
  have ckd : ∀ v, (w.setCell ⟨P, 44, none⟩ v).drew.cell? ⟨P, 44, none⟩ = some v := ck
  have FIN := hid (show ∀ w', w'.heap[P]? = some (.cells (cs.setIfInBounds 44 (.int .i64 bs.length)) 60 (0, 0)) → Pa w' P bs from by
    intro w' hw
    refine ⟨⟨_, hw, by simp [h2], ?_, ?_⟩, by omega⟩
    · simp [Array.getElem?_setIfInBounds, h2]
    · intro i hi
      rw [Array.getElem?_setIfInBounds_ne (by omega)]
      have := h4 i (by simp; omega)
      rw [List.getElem_append_left hi] at this
      exact this)
  have HR := hid hrow
  obtain ⟨n, hn⟩ : ∃ n, bs.length = n := ⟨_, rfl⟩
  rw [hn] at c44 cn cnd FIN h6
  have e1 : (n : Int) < 44 := by omega
  have e0 : (0 : Int) ≤ (n : Int) := by omega
  have ct : ((n : Int)).toNat = n := by omega
  clear h1 h2 h3 h4 h5 hn hb hrow
  go_enter Try.func50, Try.ntmps50
  go_wp2_with fail
  rename_i K A
  have HK := hid A
  clear A
  go_region_held3 (fun w' => w'.cell? ⟨P, 44, none⟩ = some (.int .i64 n) ∧ w'.cell? ⟨P, n, none⟩ = some (.pointer (some ⟨b, 0, none⟩))) (go_keep) (fail)
  refine HK.out _ _ ?_
  go_wp2_with fail
  go_ret
  refine ⟨rfl, FIN.out _ ?_, (Ko.set _ _ _ _).trans (Ko.drew _ _)⟩
  rw [heap_drew]
  exact HR.out _
/-- how high the tree behind a pointer is, by its cell. -/
def hOf (w : World) : Value → Nat
  | .pointer (some a) => match w.cell? ⟨a.block, 4, none⟩ with
    | some (.int _ h) => h.toNat
    | _ => 0
  | _ => 0
theorem hOf_tr {w : World} {t : T} {p : Option Nat} (h : Tr w t p) : hOf w (.pointer (pa p)) = t.h := by
  cases t with
  | nil => cases h.ofNil; rfl
  | nd k v l r =>
    obtain ⟨b, pl, pr, rfl, h1, _⟩ := h
    have : w.cell? ⟨b, 4, none⟩ = some (.int .i64 (T.nd k v l r).h) := row_cell h1 4
    simp [hOf, pa, this]
end Go.Proofs.Ytldpkmegofncfaa
