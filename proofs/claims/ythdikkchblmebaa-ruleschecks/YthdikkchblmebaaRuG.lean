/-
  A book and a turn in memory; an event is told.
-/
import Derived.Test.YthdikkchblmebaaRuF
namespace Go.Proofs.Ythdikkchblmebaa
open Go.RowKit Go.Deep Go.Shelf
set_option linter.unusedVariables false
set_option linter.unusedSimpArgs false
set_option maxHeartbeats 2000000
set_option maxRecDepth 100000
/-- an event. -/
structure Ev where
  sq : Int
  kd : Int
  id : Int
  ot : Int
  tg : Int
  mb : Int
  sd : Int
  ty : Int
  pr : Int
  qt : Int
  pk : Int
  rs : Int
  cd : Int
def ecs (e : Ev) : List Value := [.int .u64 e.sq, .int .i64 e.kd, .int .u64 e.id, .int .u64 e.ot, .int .u64 e.tg, .int .u32 e.mb, .int .i64 e.sd, .int .i64 e.ty, .int .i64 e.pr, .int .u64 e.qt, .int .u64 e.pk, .int .i64 e.rs, .int .i64 e.cd]
def evs (l : List Ev) : List Value := l.flatMap ecs
theorem ecs_len (e : Ev) : (ecs e).length = 13 := rfl
theorem evs_len (l : List Ev) : (evs l).length = l.length * 13 := by
  induction l with
  | nil => rfl
  | cons x l ih => simp only [evs, List.flatMap_cons, List.length_append, List.length_cons] at ih ⊢; rw [ih, ecs_len]; omega
theorem evs_snoc (l : List Ev) (e : Ev) : evs (l ++ [e]) = evs l ++ ecs e := by simp [evs]
/-- a book: its numbers, its slices, its orders with their blocks. -/
structure Bs where
  cap : Int
  meet : Int
  p1 : Option Addr
  c1 : Nat
  p2 : Option Addr
  c2 : Nat
  l1 : LO
  l2 : LO
  high : Int
  seq : Int
def Bs.row (b : Bs) : Array Value := #[.int .i64 b.cap, .int .i64 b.meet, .slice b.p1 b.l1.length b.c1, .slice b.p2 b.l2.length b.c2, .int .u64 b.high, .int .u64 b.seq]
structure Bm (w : World) (B : Nat) (b : Bs) : Prop where
  row : w.heap[B]? = some (.cells b.row 60 (0, 0))
  li1 : Li w b.p1 b.c1 b.l1
  li2 : Li w b.p2 b.c2 b.l2
  nd : ((b.l1 ++ b.l2).map (·.1)).Nodup
  ap : ∀ g, OfP b.p1 g → ¬ OfP b.p2 g
/-- the blocks of a book. -/
def Bs.fp (b : Bs) (B j : Nat) : Prop := j = B ∨ OfP b.p1 j ∨ OfP b.p2 j ∨ j ∈ b.l1.map (·.1) ∨ j ∈ b.l2.map (·.1)
theorem Bm.on {w w' : World} {B : Nat} {b : Bs} (h : Bm w B b) (hb : Below w.heap.size w w') : Bm w' B b := ⟨row_on h.row hb, h.li1.on hb, h.li2.on hb, h.nd, h.ap⟩
theorem Bm.kept {w w' : World} {B : Nat} {b : Bs} {S : Nat → Prop} (h : Bm w B b) (hk : Kp S w w') (hS : ∀ j, b.fp B j → ¬ S j) : Bm w' B b :=
  ⟨hk.row h.row (hS _ (.inl rfl)), h.li1.kept hk (fun g hg => hS g (.inr (.inl hg))) (fun x hx => hS _ (.inr (.inr (.inr (.inl (List.mem_map.2 ⟨x, hx, rfl⟩)))))), h.li2.kept hk (fun g hg => hS g (.inr (.inr (.inl hg)))) (fun x hx => hS _ (.inr (.inr (.inr (.inr (List.mem_map.2 ⟨x, hx, rfl⟩)))))), h.nd, h.ap⟩
/-- each block of a book is of one of three kinds. -/
theorem Bm.ty {w : World} {B : Nat} {b : Bs} (h : Bm w B b) {j : Nat} (hj : b.fp B j) : ∃ c t, w.heap[j]? = some (.cells c t (0, 0)) ∧ (t = 60 ∨ t = 74 ∨ t = 53) := by
  rcases hj with rfl | hj | hj | hj | hj
  · exact ⟨_, _, h.row, .inl rfl⟩
  · obtain ⟨c, e⟩ := h.li1.ty hj; exact ⟨_, _, e, .inr (.inl rfl)⟩
  · obtain ⟨c, e⟩ := h.li2.ty hj; exact ⟨_, _, e, .inr (.inl rfl)⟩
  · obtain ⟨x, hx, rfl⟩ := List.mem_map.1 hj; exact ⟨_, _, h.li1.at' x hx, .inr (.inr rfl)⟩
  · obtain ⟨x, hx, rfl⟩ := List.mem_map.1 hj; exact ⟨_, _, h.li2.at' x hx, .inr (.inr rfl)⟩
theorem Bm.ne {w : World} {B k : Nat} {b : Bs} {c : Array Value} {t : TypeId} (h : Bm w B b) (hk : w.heap[k]? = some (.cells c t (0, 0))) (h1 : t ≠ 60) (h2 : t ≠ 74) (h3 : t ≠ 53) {j : Nat} (hj : b.fp B j) : j ≠ k := by
  obtain ⟨c', t', e, ht⟩ := h.ty hj
  refine row_ne e hk ?_
  rcases ht with rfl | rfl | rfl
  · exact Ne.symm h1
  · exact Ne.symm h2
  · exact Ne.symm h3
/-- a cell of the book's own row is written. -/
theorem Bm.put {w : World} {B k : Nat} {b b' : Bs} {v : Value} (h : Bm w B b) (hr : b'.row = b.row.setIfInBounds k v) (e1 : b'.p1 = b.p1) (e2 : b'.c1 = b.c1) (e3 : b'.p2 = b.p2) (e4 : b'.c2 = b.c2) (e5 : b'.l1 = b.l1) (e6 : b'.l2 = b.l2) : Bm (w.setCell ⟨B, k, none⟩ v) B b' := by
  refine ⟨by rw [hr]; exact set_row v h.row, ?_, ?_, by rw [e5, e6]; exact h.nd, by rw [e1, e3]; exact h.ap⟩
  · rw [e1, e2, e5]; exact li_set h.li1 h.row (by decide) (by decide)
  · rw [e3, e4, e6]; exact li_set h.li2 h.row (by decide) (by decide)
theorem ecs_one (e : Ev) : ∀ v ∈ ecs e, v.oneCell' = true := by
  intro v hv
  simp only [ecs, List.mem_cons, List.not_mem_nil, or_false] at hv
  rcases hv with rfl | rfl | rfl | rfl | rfl | rfl | rfl | rfl | rfl | rfl | rfl | rfl | rfl <;> rfl
end Go.Proofs.Ythdikkchblmebaa
