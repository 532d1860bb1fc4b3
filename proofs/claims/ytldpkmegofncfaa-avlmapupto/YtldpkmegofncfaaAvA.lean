/-
  Trees in memory: the calls of their nodes.
-/
import Derived.Test.YtldpkmegofncfaaChecked
import Derived.Test.YtldpkmegofncfaaAvM
import Derived.WalkKit
import Derived.WalkLawsBesides
import Derived.RowKit3
import Derived.Deep.OwnRows
import Derived.BigQuiet
import Derived.Deep.QuietTactic
import Derived.Laws.Rows
import Derived.Laws.OwnMore
import Derived.Deep.RegionHeld3
namespace Go.Proofs.Ytldpkmegofncfaa
open Go.RowKit Go.Deep
set_option linter.unusedVariables false
set_option linter.unusedSimpArgs false
theorem hid {p : Prop} (h : p) : Hid p := h
theorem ball (w : World) (o : Obj) : Below w.heap.size w (w.alloc o) := (Below.refl _ _).alloc (Nat.le_refl _) _
theorem btr {a b c : World} (h : Below a.heap.size a b) (k : Below b.heap.size b c) : Below a.heap.size a c := h.trans (k.mono h.size)
theorem row_cell {w : World} {g : Nat} {t : TypeId} {cs : Array Value} (h : w.heap[g]? = some (.cells cs t (0, 0))) (j : Nat) : w.cell? ⟨g, j, none⟩ = cs[j]? := cell_of_row w g j cs t (0, 0) h
theorem row_lt {w : World} {g : Nat} {o : Obj} (h : w.heap[g]? = some o) : g < w.heap.size := (Array.getElem?_eq_some_iff.1 h).1
theorem row_on {w w' : World} {g : Nat} {o : Obj} (h : w.heap[g]? = some o) (hb : Below w.heap.size w w') : w'.heap[g]? = some o := by
  rw [hb.block g (row_lt h)]; exact h
def pa : Option Nat → Option Addr
  | none => none
  | some b => some ⟨b, 0, none⟩
def pb (p : Option Nat) : Value := .pointer (pa p)
/-- a node's row. -/
def nrow (k v : Int) (pl pr : Option Nat) (h n : Nat) : Array Value := #[.int .i64 k, .int .i64 v, pb pl, pb pr, .int .i64 h, .int .i64 n]
/-- a tree lies behind a pointer. -/
def Tr (w : World) : T → Option Nat → Prop
  | .nil, p => p = none
  | .nd k v l r, p => ∃ b pl pr, p = some b ∧ w.heap[b]? = some (.cells (nrow k v pl pr (T.nd k v l r).h (T.nd k v l r).n) 68 (0, 0)) ∧ Tr w l pl ∧ Tr w r pr
theorem Tr.same {w w' : World} : ∀ {t : T} {p : Option Nat}, Tr w t p → (∀ (b : Nat) (c : Array Value), w.heap[b]? = some (Obj.cells c 68 (0, 0)) → w'.heap[b]? = some (Obj.cells c 68 (0, 0))) → Tr w' t p
  | .nil, _ => fun h _ => h
  | .nd k v l r, _ => by
    rintro ⟨b, pl, pr, rfl, h1, h2, h3⟩ hs
    exact ⟨b, pl, pr, rfl, hs _ _ h1, h2.same hs, h3.same hs⟩
theorem Tr.on {w w' : World} {t : T} {p : Option Nat} (h : Tr w t p) (hb : Below w.heap.size w w') : Tr w' t p := h.same (fun _ _ hc => row_on hc hb)
theorem Tr.ofNil {w : World} {p : Option Nat} (h : Tr w .nil p) : p = none := h
theorem Tr.ofNone {w : World} {t : T} (h : Tr w t none) : t = .nil := by
  cases t with
  | nil => rfl
  | nd k v l r => obtain ⟨b, _, _, e, _⟩ := h; cases e
theorem Tr.lt {w : World} {t : T} {b : Nat} (h : Tr w t (some b)) : b < w.heap.size := by
  cases t with
  | nil => cases h.ofNil
  | nd k v l r => obtain ⟨b', _, _, e, h1, _⟩ := h; cases e; exact row_lt h1

set_option maxHeartbeats 400000 in
theorem tall_any {w : World} {t : T} {p : Option Nat} (h : Tr w t p) :
    Calls Try.prog 47 #[pb p] w fun e w' => e = .returned (.int .i64 t.h) ∧ w' = w := by
  cases t with
  | nil =>
    cases h.ofNil
    simp only [pb, pa, T.h]
    clear h
    go_enter Try.func47, Try.ntmps47
    go_wp2
    go_ret
    exact ⟨rfl, rfl⟩
  | nd k v l r =>
    obtain ⟨b, pl, pr, rfl, h1, h2, h3⟩ := h
    generalize (T.nd k v l r).h = hh at *
    have hc : w.cell? ⟨b, 4, none⟩ = some (.int .i64 hh) := row_cell h1 4
    clear h1 h2 h3
    simp only [pb, pa]
    go_enter Try.func47, Try.ntmps47
    go_wp2
    go_ret
    exact ⟨rfl, rfl⟩
set_option maxHeartbeats 400000 in
theorem count_any {w : World} {t : T} {p : Option Nat} (h : Tr w t p) :
    Calls Try.prog 43 #[pb p] w fun e w' => e = .returned (.int .i64 t.n) ∧ w' = w := by
  cases t with
  | nil =>
    cases h.ofNil
    simp only [pb, pa, T.n]
    clear h
    go_enter Try.func43, Try.ntmps43
    go_wp2
    go_ret
    exact ⟨rfl, rfl⟩
  | nd k v l r =>
    obtain ⟨b, pl, pr, rfl, h1, h2, h3⟩ := h
    generalize (T.nd k v l r).n = hh at *
    have hc : w.cell? ⟨b, 5, none⟩ = some (.int .i64 hh) := row_cell h1 5
    clear h1 h2 h3
    simp only [pb, pa]
    go_enter Try.func43, Try.ntmps43
    go_wp2
    go_ret
    exact ⟨rfl, rfl⟩
/-- what keyOf and valueOf say. -/
def oV : Option Int → Value
  | none => .tuple #[.int .i64 0, .bool false]
  | some k => .tuple #[.int .i64 k, .bool true]
set_option maxHeartbeats 400000 in
theorem keyOf_any {w : World} {t : T} {p : Option Nat} (h : Tr w t p) :
    Calls Try.prog 45 #[pb p] w fun e w' => e = .returned (oV t.key?) ∧ w' = w := by
  cases t with
  | nil =>
    cases h.ofNil
    simp only [pb, pa, T.key?, oV]
    clear h
    go_enter Try.func45, Try.ntmps45
    go_wp2
    go_ret2
    exact ⟨rfl, rfl⟩
  | nd k v l r =>
    obtain ⟨b, pl, pr, rfl, h1, h2, h3⟩ := h
    have hc : w.cell? ⟨b, 0, none⟩ = some (.int .i64 k) := row_cell h1 0
    clear h1 h2 h3
    simp only [pb, pa, T.key?, oV]
    go_enter Try.func45, Try.ntmps45
    go_wp2
    go_ret2
    exact ⟨rfl, rfl⟩
set_option maxHeartbeats 400000 in
theorem valueOf_any {w : World} {t : T} {p : Option Nat} (h : Tr w t p) :
    Calls Try.prog 41 #[pb p] w fun e w' => e = .returned (oV t.val) ∧ w' = w := by
  cases t with
  | nil =>
    cases h.ofNil
    simp only [pb, pa, T.val, oV]
    clear h
    go_enter Try.func41, Try.ntmps41
    go_wp2
    go_ret2
    exact ⟨rfl, rfl⟩
  | nd k v l r =>
    obtain ⟨b, pl, pr, rfl, h1, h2, h3⟩ := h
    have hc : w.cell? ⟨b, 1, none⟩ = some (.int .i64 v) := row_cell h1 1
    clear h1 h2 h3
    simp only [pb, pa, T.val, oV]
    go_enter Try.func41, Try.ntmps41
    go_wp2
    go_ret2
    exact ⟨rfl, rfl⟩
def sdI (key k : Int) : Int := if key < k then 0 else 1
set_option maxHeartbeats 400000 in
theorem sideOf_any (key k : Int) (w : World) :
    Calls Try.prog 44 #[.int .i64 key, .int .i64 k] w fun e w' => e = .returned (.int .i64 (sdI key k)) ∧ w' = w := by
  by_cases h : key < k
  · simp only [sdI, h, if_true]
    go_enter Try.func44, Try.ntmps44
    go_wp2
    go_ret
    exact ⟨rfl, rfl⟩
  · simp only [sdI, h, if_false]
    go_enter Try.func44, Try.ntmps44
    go_wp2
    go_ret
    exact ⟨rfl, rfl⟩
set_option maxHeartbeats 400000 in
theorem leaf_any (key v : Int) (w : World) :
    Calls Try.prog 39 #[.int .i64 key, .int .i64 v] w fun e w' => ∃ b, e = .returned (pb (some b)) ∧ Tr w' (.nd key v .nil .nil) (some b) ∧ Below w.heap.size w w' := by
  go_enter Try.func39, Try.ntmps39
  go_wp2
  go_ret
  refine ⟨w.heap.size, rfl, ⟨w.heap.size, none, none, rfl, ?_, rfl, rfl⟩, ball _ _⟩
  exact heap_alloc_new _ _
set_option maxHeartbeats 400000 in
theorem holding_any {w : World} {k v : Int} {l r : T} {p : Option Nat} (h : Tr w (.nd k v l r) p) (key u : Int) :
    Calls Try.prog 40 #[pb p, .int .i64 key, .int .i64 u] w fun e w' => ∃ b, e = .returned (pb (some b)) ∧ Tr w' (.nd key u l r) (some b) ∧ Below w.heap.size w w' := by
  obtain ⟨b, pl, pr, rfl, h1, h2, h3⟩ := h
  have e1 : (T.nd k v l r).h = (T.nd key u l r).h := rfl
  have e2 : (T.nd k v l r).n = (T.nd key u l r).n := rfl
  rw [e1, e2] at h1
  generalize eh : (T.nd key u l r).h = hh at *
  generalize en : (T.nd key u l r).n = hn at *
  have c0 : w.cell? ⟨b, 0, none⟩ = some (.int .i64 k) := row_cell h1 0
  have c1 : w.cell? ⟨b, 1, none⟩ = some (.int .i64 v) := row_cell h1 1
  have c2 : w.cell? ⟨b, 2, none⟩ = some (pb pl) := row_cell h1 2
  have c3 : w.cell? ⟨b, 3, none⟩ = some (pb pr) := row_cell h1 3
  have c4 : w.cell? ⟨b, 4, none⟩ = some (.int .i64 hh) := row_cell h1 4
  have c5 : w.cell? ⟨b, 5, none⟩ = some (.int .i64 hn) := row_cell h1 5
  have FIN := hid (show Tr (w.alloc (.cells #[.int .i64 key, .int .i64 u, .pointer (pa pl), .pointer (pa pr), .int .i64 hh, .int .i64 hn] 68)) (.nd key u l r) (some w.heap.size) from by
    refine ⟨w.heap.size, pl, pr, rfl, ?_, h2.on (ball _ _), h3.on (ball _ _)⟩
    rw [eh, en]
    exact heap_alloc_new _ _)
  obtain ⟨x, hx⟩ : ∃ x, pa pl = x := ⟨_, rfl⟩
  obtain ⟨y, hy⟩ : ∃ y, pa pr = y := ⟨_, rfl⟩
  rw [pb, hx] at c2
  rw [pb, hy] at c3
  have HX := hid hx
  have HY := hid hy
  clear h1 h2 h3 hx hy eh en e1 e2
  simp only [pb, pa]
  go_enter Try.func40, Try.ntmps40
  go_wp2
  go_ret
  rw [← HX.out, ← HY.out]
  exact ⟨w.heap.size, rfl, FIN.out, ball _ _⟩
end Go.Proofs.Ytldpkmegofncfaa
