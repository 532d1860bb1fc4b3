/-
  An arena of ints in memory; New, Len, Free, find.
-/
import Derived.Test.YtecalelfofgfpaaChecked
import Derived.WalkKit
import Derived.WalkLawsBesides
import Derived.RowKit3
import Derived.Deep.OwnRows
import Derived.BigQuiet
import Derived.Deep.QuietTactic
import Derived.Laws.Rows
import Derived.Laws.OwnMore
import Derived.Laws.AppendOwnNone
namespace Go.Proofs.Ytecalelfofgfpaa
open Go.RowKit Go.Deep
set_option linter.unusedVariables false
set_option linter.unusedSimpArgs false
theorem hid {p : Prop} (h : p) : Hid p := h
theorem ball (w : World) (o : Obj) : Below w.heap.size w (w.alloc o) := (Below.refl _ _).alloc (Nat.le_refl _) _
theorem btr {a b c : World} (h : Below a.heap.size a b) (k : Below b.heap.size b c) : Below a.heap.size a c := h.trans (k.mono h.size)
theorem btrB {B : Nat} {a b c : World} (h : Below B a b) (hB : B ≤ b.heap.size) (k : Below b.heap.size b c) : Below B a c := h.trans (k.mono hB)
theorem row_cell {w : World} {g : Nat} {t : TypeId} {cs : Array Value} (h : w.heap[g]? = some (.cells cs t (0, 0))) (j : Nat) : w.cell? ⟨g, j, none⟩ = cs[j]? := cell_of_row w g j cs t (0, 0) h
theorem row_lt {w : World} {g : Nat} {o : Obj} (h : w.heap[g]? = some o) : g < w.heap.size := (Array.getElem?_eq_some_iff.1 h).1
theorem row_on {w w' : World} {g : Nat} {o : Obj} (h : w.heap[g]? = some o) (hb : Below w.heap.size w w') : w'.heap[g]? = some o := by
  rw [hb.block g (row_lt h)]; exact h

/-- a node. -/
structure Nd where
  idx : Nat
  life : Nat
  tk : Bool
  v : Int
  q : Option Nat
  dd : Bool
  ah : Option Nat
  be : Option Nat
def pb : Option Nat → Value
  | none => .pointer none
  | some b => .pointer (some ⟨b, 0, none⟩)
def nrow (n : Nd) : Array Value := #[.int .u32 n.idx, .int .u32 n.life, .bool n.tk, .int .i64 n.v, pb n.q, .bool n.dd, pb n.ah, pb n.be]
/-- an arena: its room, how many are taken, its nodes' blocks in order, the nodes by their blocks, the one that was dropped last. -/
structure ArS where
  room : Nat
  tk : Nat
  bs : List Nat
  nd : Nat → Nd
  fr : Option Nat
def ptrs (bs : List Nat) : List Value := bs.map fun b => pb (some b)
structure Ar (base : Nat) (w : World) (A : Nat) (s : ArS) : Prop where
  low : base ≤ A
  row : ∃ sl, w.heap[A]? = some (.cells #[.int .i64 s.room, .int .i64 s.tk, sl, pb s.fr] 91 (0, 0)) ∧ w.ownsRow base 89 1 sl s.bs.length (ptrs s.bs)
  nod : s.bs.Nodup
  nds : ∀ i (h : i < s.bs.length), base ≤ s.bs[i] ∧ w.heap[s.bs[i]]? = some (.cells (nrow (s.nd s.bs[i])) 94 (0, 0)) ∧ (s.nd s.bs[i]).idx = i
/-- the node of a good handle. -/
def ArS.at (s : ArS) (i l : Nat) : Option Nat :=
  match s.bs[i]? with
  | none => none
  | some b => if (s.nd b).tk = true ∧ (s.nd b).life = l then some b else none
theorem ArS.at_none {s : ArS} {i l : Nat} (h : s.bs.length ≤ i) : s.at i l = none := by
  unfold ArS.at; rw [List.getElem?_eq_none h]
theorem ArS.at_get {s : ArS} {i l : Nat} (h : i < s.bs.length) : s.at i l = if (s.nd s.bs[i]).tk = true ∧ (s.nd s.bs[i]).life = l then some s.bs[i] else none := by
  unfold ArS.at; rw [List.getElem?_eq_getElem h]
theorem own_on {w w' : World} {base : Nat} {e : TypeId} {size : Nat} {v : Value} {n : Nat} {xs : List Value} (h : w.ownsRow base e size v n xs) (hb : Below w.heap.size w w') : w'.ownsRow base e size v n xs := by
  obtain ⟨h1, h2⟩ := h
  refine ⟨h1, h2.imp id ?_⟩
  rintro ⟨g, cap, cur, e1, e2, hg, r⟩
  exact ⟨g, cap, cur, e1, e2, row_on hg hb, r⟩
theorem Ar.on {base : Nat} {w w' : World} {A : Nat} {s : ArS} (h : Ar base w A s) (hb : Below w.heap.size w w') : Ar base w' A s := by
  obtain ⟨h0, ⟨sl, h1, h2⟩, h3, h4⟩ := h
  exact ⟨h0, ⟨sl, row_on h1 hb, own_on h2 hb⟩, h3, fun i hi => ⟨(h4 i hi).1, row_on (h4 i hi).2.1 hb, (h4 i hi).2.2⟩⟩

set_option maxHeartbeats 400000 in
theorem new_bad (room : Int) (w : World) (h : room < 1 ∨ 65536 < room) :
    Calls Try.prog 13 #[.int .i64 room] w fun e w' => e = .returned (.tuple #[.pointer none, .int .i64 1]) ∧ w' = w := by
  by_cases h1 : room < 1
  · go_enter Try.func13, Try.ntmps13
    go_wp2
    go_ret2
    exact ⟨rfl, rfl⟩
  · have h2 : 65536 < room := by omega
    go_enter Try.func13, Try.ntmps13
    go_wp2
    go_ret2
    exact ⟨rfl, rfl⟩
def nd0 : Nat → Nd := fun _ => ⟨0, 0, false, 0, none, false, none, none⟩
set_option maxHeartbeats 400000 in
theorem new_any (room : Nat) (w : World) (h1 : 1 ≤ room) (h2 : room ≤ 65536) :
    Calls Try.prog 13 #[.int .i64 room] w fun e w' => e = .returned (.tuple #[.pointer (some ⟨w.heap.size, 0, none⟩), .int .i64 0]) ∧ Ar w.heap.size w' w.heap.size ⟨room, 0, [], nd0, none⟩ ∧ Below w.heap.size w w' := by
  have i1 : ¬ (room : Int) < 1 := by omega
  have i2 : ¬ 65536 < (room : Int) := by omega
  go_enter Try.func13, Try.ntmps13
  go_wp2
  go_ret2
  refine ⟨rfl, ⟨Nat.le_refl _, ⟨.slice none 0 0, ?_, ?_⟩, List.nodup_nil, fun i h => by simp at h⟩, ball _ _⟩
  · exact heap_alloc_new _ _
  · exact ⟨rfl, Or.inl ⟨rfl, rfl⟩⟩

set_option maxHeartbeats 400000 in
theorem len_any {base : Nat} {w : World} {A : Nat} {s : ArS} (h : Ar base w A s) :
    Calls Try.prog 19 #[.pointer (some ⟨A, 0, none⟩)] w fun e w' => e = .returned (.int .i64 s.tk) ∧ w' = w := by
  obtain ⟨h0, ⟨sl, h1, h2⟩, h3, h4⟩ := h
  have hc : w.cell? ⟨A, 1, none⟩ = some (.int .i64 s.tk) := row_cell h1 1
  clear h1 h2 h3 h4
  go_enter Try.func19, Try.ntmps19
  go_wp2
  go_ret
  exact ⟨rfl, rfl⟩
set_option maxHeartbeats 400000 in
theorem free_any {base : Nat} {w : World} {A : Nat} {s : ArS} (h : Ar base w A s) (ht : s.tk ≤ s.room) (hr : s.room ≤ 65536) :
    Calls Try.prog 23 #[.pointer (some ⟨A, 0, none⟩)] w fun e w' => e = .returned (.int .i64 ((s.room : Int) - s.tk)) ∧ Below w.heap.size w w' := by
  obtain ⟨h0, ⟨sl, h1, h2⟩, h3, h4⟩ := h
  have hc : w.cell? ⟨A, 1, none⟩ = some (.int .i64 s.tk) := row_cell h1 1
  have hc0 : w.cell? ⟨A, 0, none⟩ = some (.int .i64 s.room) := row_cell h1 0
  have i1 : (s.tk : Int) ≤ s.room := by omega
  have i2 : (s.room : Int) ≤ 65536 := by omega
  clear h1 h2 h3 h4
  go_enter Try.func23, Try.ntmps23
  go_wp2
  go_quiet (fail)
  go_wp2
  go_ret
  exact ⟨rfl, ⟨rfl, rfl, rfl, Nat.le_refl _, fun _ _ => rfl⟩⟩

theorem pb_some (b : Nat) : pb (some b) = .pointer (some ⟨b, 0, none⟩) := rfl
theorem below_drews {a b : World} (h : b.heap = a.heap) (h1 : b.os = a.os) (h2 : b.tape = a.tape) (h3 : b.output = a.output) : Below a.heap.size a b := ⟨h1, h2, h3, by rw [h]; exact Nat.le_refl _, fun _ _ => by rw [h]⟩
set_option maxHeartbeats 2000000 in
set_option maxRecDepth 100000 in
/-- the node of a good handle, or nil. -/
theorem find_any {base : Nat} {w : World} {A : Nat} {s : ArS} (h : Ar base w A s) (hl : s.bs.length ≤ 65536) (i l : Nat) :
    Calls Try.prog 68 #[.pointer (some ⟨A, 0, none⟩), .agg #[.int .u32 i, .int .u32 l]] w fun e w' => e = .returned (pb (s.at i l)) ∧ Below w.heap.size w w' := by
  have HL := hid (row_lt h.row.choose_spec.1)
  obtain ⟨h0, ⟨sl, h1, h2⟩, h3, h4⟩ := h
  by_cases hi : s.bs.length ≤ i
  · obtain ⟨p, c, rfl⟩ : ∃ p c, sl = .slice p s.bs.length c := by
      rcases h2.2 with ⟨rfl, e⟩ | ⟨g, cap, cur, e, _⟩
      · exact ⟨none, 0, by rw [e]⟩
      · exact ⟨_, _, e⟩
    have hc : w.cell? ⟨A, 2, none⟩ = some (.slice p s.bs.length c) := row_cell h1 2
    have e1 : ((s.bs.length : Nat) : Int) ≤ (i : Int) := by omega
    have e2 : ((s.bs.length : Nat) : Int) ≤ 65536 := by omega
    have e3 : IntKind.u32.wrap ((s.bs.length : Nat) : Int) = (s.bs.length : Int) := by simp [IntKind.wrap, IntKind.bits, IntKind.signed]; omega
    have R := hid (ArS.at_none (l := l) hi)
    have hA : A < w.heap.size := HL.out
    clear h1 h2 h3 h4
    go_enter Try.func68, Try.ntmps68
    go_wp2
    go_quiet (fail)
    go_wp2
    go_ret
    exact ⟨by rw [R.out]; rfl, btr (ball _ _) (below_drews rfl rfl rfl rfl)⟩
  · have hi : i < s.bs.length := by omega
    rcases h2.2 with ⟨rfl, e⟩ | ⟨g, cap, cur, rfl, hg0, hg, r1, r2, r3, r4⟩
    · omega
    obtain ⟨hb0, hN, hix⟩ := h4 i hi
    obtain ⟨b, hb⟩ : ∃ b, s.bs[i] = b := ⟨_, rfl⟩
    have R := ArS.at_get (l := l) hi
    rw [hb] at hN hb0 hix R
    have hc : w.cell? ⟨A, 2, none⟩ = some (.slice (some ⟨g, 0, none⟩) s.bs.length cap) := row_cell h1 2
    have hp : w.cell? ⟨g, i, none⟩ = some (.pointer (some ⟨b, 0, none⟩)) := by
      rw [h2.cellAt i (by omega)]; simp [ptrs, hi, hb, pb]
    have n0 : w.cell? ⟨b, 0, none⟩ = some (.int .u32 i) := by rw [row_cell hN 0]; simp [nrow, hix]
    have n1 : w.cell? ⟨b, 1, none⟩ = some (.int .u32 (s.nd b).life) := row_cell hN 1
    have n2 : w.cell? ⟨b, 2, none⟩ = some (.bool (s.nd b).tk) := row_cell hN 2
    have e1 : ¬ ((s.bs.length : Nat) : Int) ≤ (i : Int) := by omega
    have e1' : (i : Int) < ((s.bs.length : Nat) : Int) := by omega
    have e0 : (0 : Int) ≤ (i : Int) := by omega
    have e2 : ((s.bs.length : Nat) : Int) ≤ 65536 := by omega
    have e3 : IntKind.u32.wrap ((s.bs.length : Nat) : Int) = (s.bs.length : Int) := by simp [IntKind.wrap, IntKind.bits, IntKind.signed]; omega
    have hA : A < w.heap.size := HL.out
    have hB : b < w.heap.size := row_lt hN
    have hG : g < w.heap.size := row_lt hg
    obtain ⟨lf, hlf⟩ : ∃ lf, (s.nd b).life = lf := ⟨_, rfl⟩
    obtain ⟨tk, htk⟩ : ∃ tk, (s.nd b).tk = tk := ⟨_, rfl⟩
    rw [hlf, htk] at R
    rw [hlf] at n1
    rw [htk] at n2
    clear h1 h2 h3 h4 hN hg hix hb hlf htk hg0 hb0 r1 r2 r3 r4 h0
    cases tk with
    | false =>
      have R := hid R
      go_enter Try.func68, Try.ntmps68
      go_wp2
      go_quiet (fail)
      go_wp2
      go_quiet (fail)
      go_wp2
      go_quiet (fail)
      go_wp2
      go_ret
      exact ⟨by rw [R.out]; rfl, btr (ball _ _) (below_drews rfl rfl rfl rfl)⟩
    | true =>
      by_cases hll : lf = l
      · subst hll
        have R := hid R
        have q1 : ((i : Int) == (i : Int)) = true := by simp
        go_enter Try.func68, Try.ntmps68
        go_wp2
        go_quiet (fail)
        go_wp2
        go_quiet (fail)
        go_wp2
        go_quiet (fail)
        go_wp2
        go_ret
        exact ⟨by rw [R.out]; simp [pb], btr (ball _ _) (below_drews rfl rfl rfl rfl)⟩
      · have R := hid R
        have q2 : ((lf : Int) == (l : Int)) = false := by simp; omega
        have HLL := hid hll
        clear hll
        go_enter Try.func68, Try.ntmps68
        go_wp2
        go_quiet (fail)
        go_wp2
        go_quiet (fail)
        go_wp2
        go_quiet (fail)
        go_wp2
        go_ret
        exact ⟨by rw [R.out]; simp [pb, HLL.out], btr (ball _ _) (below_drews rfl rfl rfl rfl)⟩
end Go.Proofs.Ytecalelfofgfpaa
