/-
  The open table in memory; its small calls.
-/
import Derived.Test.YthidnipmkffilaaChecked
import Derived.Test.YthidnipmkffilaaIxM
import Derived.Test.YthidnipmkffilaaShelf
import Derived.WalkKit
import Derived.WalkLawsBesides
import Derived.RowKit3
import Derived.Deep.OwnRows
import Derived.BigQuiet
import Derived.Deep.QuietTactic
import Derived.Laws.Rows
import Derived.Laws.OwnMore
import Derived.Deep.RegionHeld3
namespace Go.Proofs.Ythidnipmkffilaa
open Go.RowKit Go.Deep
set_option linter.unusedVariables false
set_option linter.unusedSimpArgs false
theorem hid {p : Prop} (h : p) : Hid p := h
theorem ball (w : World) (o : Obj) : Below w.heap.size w (w.alloc o) := (Below.refl _ _).alloc (Nat.le_refl _) _
theorem btr {a b c : World} (h : Below a.heap.size a b) (k : Below b.heap.size b c) : Below a.heap.size a c := h.trans (k.mono h.size)
theorem row_cell {w : World} {g : Nat} {t : TypeId} {cs : Array Value} (h : w.heap[g]? = some (.cells cs t (0, 0))) (j : Nat) : w.cell? ⟨g, j, none⟩ = cs[j]? := cell_of_row w g j cs t (0, 0) h
theorem row_lt {w : World} {g : Nat} {o : Obj} (h : w.heap[g]? = some o) : g < w.heap.size := (Array.getElem?_eq_some_iff.1 h).1
theorem row_on {w w' : World} {g : Nat} {o : Obj} (h : w.heap[g]? = some o) (hb : Below w.heap.size w w') : w'.heap[g]? = some o := by
  rw [hb.block g (row_lt h)]; exact h
theorem below_drews {a b : World} (h : b.heap = a.heap) (h1 : b.os = a.os) (h2 : b.tape = a.tape) (h3 : b.output = a.output) : Below a.heap.size a b := ⟨h1, h2, h3, by rw [h]; exact Nat.le_refl _, fun _ _ => by rw [h]⟩

/-- all blocks but some are as they were. -/
structure Kp (B : Nat → Prop) (w w' : World) : Prop where
  os : w'.os = w.os
  tape : w'.tape = w.tape
  output : w'.output = w.output
  size : w.heap.size ≤ w'.heap.size
  obj : ∀ b, b < w.heap.size → ¬ B b → w'.heap[b]? = w.heap[b]?
theorem Kp.refl (B : Nat → Prop) (w : World) : Kp B w w := ⟨rfl, rfl, rfl, Nat.le_refl _, fun _ _ _ => rfl⟩
theorem Kp.trans {B : Nat → Prop} {a b c : World} (h : Kp B a b) (k : Kp B b c) : Kp B a c :=
  ⟨k.os.trans h.os, k.tape.trans h.tape, k.output.trans h.output, Nat.le_trans h.size k.size, fun g hg hB => (k.obj g (Nat.lt_of_lt_of_le hg h.size) hB).trans (h.obj g hg hB)⟩
theorem Kp.mono {B C : Nat → Prop} {a b : World} (h : Kp B a b) (hm : ∀ g, g < a.heap.size → B g → C g) : Kp C a b :=
  ⟨h.os, h.tape, h.output, h.size, fun g hg hC => h.obj g hg (fun hB => hC (hm g hg hB))⟩
theorem Kp.drew (B : Nat → Prop) (w : World) : Kp B w w.drew := ⟨rfl, rfl, rfl, Nat.le_refl _, fun _ _ _ => rfl⟩
theorem Kp.drewN (B : Nat → Prop) (w : World) (n : Nat) : Kp B w (w.drewN n) := ⟨rfl, rfl, rfl, Nat.le_refl _, fun _ _ _ => rfl⟩
theorem Kp.row {B : Nat → Prop} {w w' : World} (h : Kp B w w') {g : Nat} {o : Obj} (e : w.heap[g]? = some o) (hB : ¬ B g) : w'.heap[g]? = some o := (h.obj g (row_lt e) hB).trans e
theorem Kp.below {B : Nat → Prop} {w w' : World} (h : Kp B w w') {n : Nat} (hn : n ≤ w.heap.size) (hB : ∀ g, g < n → ¬ B g) : Below n w w' :=
  ⟨h.os, h.tape, h.output, h.size, fun g hg => h.obj g (Nat.lt_of_lt_of_le hg hn) (hB g hg)⟩
theorem Kp.ofBelow {w w' : World} (B : Nat → Prop) (h : Below w.heap.size w w') : Kp B w w' := ⟨h.os, h.tape, h.output, h.size, fun g hg _ => h.block g hg⟩

/-- the whole numbers of a place. -/
def eU : Option (Int × Int) → Bool
  | none => false
  | some _ => true
def eK : Option (Int × Int) → Int
  | none => 0
  | some p => p.1
def eV : Option (Int × Int) → Int
  | none => 0
  | some p => p.2

/-- a key's home among n places. -/
def hm (n : Nat) (k : Int) : Nat := ((k * 11400714819323198485) % 18446744073709551616 * n / 18446744073709551616).toNat
theorem hm_lt {n : Nat} (h : 0 < n) (k : Int) : hm n k < n := by
  unfold hm
  have h1 : 0 ≤ (k * 11400714819323198485) % 18446744073709551616 := Int.emod_nonneg _ (by decide)
  have h2 : (k * 11400714819323198485) % 18446744073709551616 < 18446744073709551616 := Int.emod_lt_of_pos _ (by decide)
  generalize (k * 11400714819323198485) % 18446744073709551616 = x at *
  have h3 : x * (n : Int) < 18446744073709551616 * (n : Int) := Int.mul_lt_mul_of_pos_right h2 (by omega)
  have h4 : 0 ≤ x * (n : Int) := Int.mul_nonneg h1 (by omega)
  generalize x * (n : Int) = y at *
  omega

/-- a table lies in block P: n places of three cells each. -/
def Pl (w : World) (P n : Nat) (T : Ix.Tab) : Prop :=
  ∃ cs : Array Value, w.heap[P]? = some (.cells cs 71 (0, 0)) ∧ cs.size = 3 * n ∧
    ∀ i, i < n → cs[i * 3]? = some (.bool (eU (T i))) ∧ cs[i * 3 + 1]? = some (.int .u64 (eK (T i))) ∧ cs[i * 3 + 2]? = some (.int .i64 (eV (T i)))

/-- an index lies in block X, its places in P. -/
structure Lx (w : World) (X P n room : Nat) (T : Ix.Tab) : Prop where
  row : w.heap[X]? = some (.cells #[.int .i64 room, .int .i64 (Ix.cnt T n), .slice (some ⟨P, 0, none⟩) n n] 69 (0, 0))
  pl : Pl w P n T
  pow : ∃ k, n = 2 ^ k
  two : 2 * room ≤ n
  one : 1 ≤ room
  most : n ≤ 131072
  le : Ix.cnt T n ≤ room
  keys : ∀ i k v, i < n → T i = some (k, v) → 0 ≤ k ∧ k ≤ 18446744073709551615

theorem Pl.cell {w : World} {P n : Nat} {T : Ix.Tab} (h : Pl w P n T) {i : Nat} (hi : i < n) :
    w.cell? ⟨P, i * 3, none⟩ = some (.bool (eU (T i))) ∧ w.cell? ⟨P, i * 3 + 1, none⟩ = some (.int .u64 (eK (T i))) ∧ w.cell? ⟨P, i * 3 + 2, none⟩ = some (.int .i64 (eV (T i))) := by
  obtain ⟨cs, h1, h2, h3⟩ := h
  rw [row_cell h1, row_cell h1, row_cell h1]
  exact h3 i hi
theorem Pl.same {w w' : World} {P n : Nat} {T : Ix.Tab} (h : Pl w P n T) (e : w'.heap[P]? = w.heap[P]?) : Pl w' P n T := by
  obtain ⟨cs, h1, h2⟩ := h
  exact ⟨cs, e.trans h1, h2⟩
theorem Lx.cells {w : World} {X P n room : Nat} {T : Ix.Tab} (h : Lx w X P n room T) :
    w.cell? ⟨X, 0, none⟩ = some (.int .i64 room) ∧ w.cell? ⟨X, 1, none⟩ = some (.int .i64 (Ix.cnt T n)) ∧ w.cell? ⟨X, 2, none⟩ = some (.slice (some ⟨P, 0, none⟩) n n) :=
  ⟨row_cell h.row 0, row_cell h.row 1, row_cell h.row 2⟩
theorem Lx.kp {B : Nat → Prop} {w w' : World} {X P n room : Nat} {T : Ix.Tab} (h : Lx w X P n room T) (k : Kp B w w') (hX : ¬ B X) (hP : ¬ B P) : Lx w' X P n room T := by
  obtain ⟨cs, h1, h2⟩ := h.pl
  exact { h with row := k.row h.row hX, pl := ⟨cs, k.row h1 hP, h2⟩ }
theorem Lx.drew {w : World} {X P n room : Nat} {T : Ix.Tab} (h : Lx w X P n room T) : Lx w.drew X P n room T := h.kp (Kp.drew (fun _ => False) w) (fun h => h) (fun h => h)
theorem Lx.ltX {w : World} {X P n room : Nat} {T : Ix.Tab} (h : Lx w X P n room T) : X < w.heap.size := row_lt h.row
theorem Lx.ltP {w : World} {X P n room : Nat} {T : Ix.Tab} (h : Lx w X P n room T) : P < w.heap.size := by obtain ⟨cs, h1, _⟩ := h.pl; exact row_lt h1
theorem Lx.neXP {w : World} {X P n room : Nat} {T : Ix.Tab} (h : Lx w X P n room T) : X ≠ P := by
  intro e; obtain ⟨cs, h1, _⟩ := h.pl; rw [← e, h.row] at h1; simp at h1
theorem Lx.pos {w : World} {X P n room : Nat} {T : Ix.Tab} (h : Lx w X P n room T) : 2 ≤ n := by have := h.two; have := h.one; omega
theorem Lx.free {w : World} {X P n room : Nat} {T : Ix.Tab} (h : Lx w X P n room T) : ∃ e, e < n ∧ T e = none := Ix.cnt_free (by have := h.two; have := h.one; have := h.le; omega)

/-- an index of which the count is not told. -/
structure Lc (w : World) (X P n room : Nat) (c : Int) (T : Ix.Tab) : Prop where
  row : w.heap[X]? = some (.cells #[.int .i64 room, .int .i64 c, .slice (some ⟨P, 0, none⟩) n n] 69 (0, 0))
  pl : Pl w P n T
theorem Lx.lc {w : World} {X P n room : Nat} {T : Ix.Tab} (h : Lx w X P n room T) : Lc w X P n room (Ix.cnt T n) T := ⟨h.row, h.pl⟩
theorem Lc.kp {B : Nat → Prop} {w w' : World} {X P n room : Nat} {c : Int} {T : Ix.Tab} (h : Lc w X P n room c T) (k : Kp B w w') (hX : ¬ B X) (hP : ¬ B P) : Lc w' X P n room c T := by
  obtain ⟨cs, h1, h2⟩ := h.pl
  exact ⟨k.row h.row hX, ⟨cs, k.row h1 hP, h2⟩⟩
theorem Lc.neXP {w : World} {X P n room : Nat} {c : Int} {T : Ix.Tab} (h : Lc w X P n room c T) : X ≠ P := by
  intro e; obtain ⟨cs, h1, _⟩ := h.pl; rw [← e, h.row] at h1; simp at h1
theorem Lc.ltX {w : World} {X P n room : Nat} {c : Int} {T : Ix.Tab} (h : Lc w X P n room c T) : X < w.heap.size := row_lt h.row
theorem Lc.ltP {w : World} {X P n room : Nat} {c : Int} {T : Ix.Tab} (h : Lc w X P n room c T) : P < w.heap.size := by obtain ⟨cs, h1, _⟩ := h.pl; exact row_lt h1
theorem Lc.cells {w : World} {X P n room : Nat} {c : Int} {T : Ix.Tab} (h : Lc w X P n room c T) :
    w.cell? ⟨X, 0, none⟩ = some (.int .i64 room) ∧ w.cell? ⟨X, 1, none⟩ = some (.int .i64 c) ∧ w.cell? ⟨X, 2, none⟩ = some (.slice (some ⟨P, 0, none⟩) n n) :=
  ⟨row_cell h.row 0, row_cell h.row 1, row_cell h.row 2⟩
set_option maxHeartbeats 400000 in
theorem room_any {w : World} {X P n room : Nat} {T : Ix.Tab} (h : Lx w X P n room T) :
    Calls Try.prog 10 #[.pointer (some ⟨X, 0, none⟩)] w fun e w' => e = .returned (.int .i64 room) ∧ w' = w := by
  have hc := h.cells.1
  clear h
  go_enter Try.func10, Try.ntmps10
  go_wp2
  go_ret
  exact ⟨rfl, rfl⟩
set_option maxHeartbeats 400000 in
theorem len_any {w : World} {X P n room : Nat} {T : Ix.Tab} (h : Lx w X P n room T) :
    Calls Try.prog 11 #[.pointer (some ⟨X, 0, none⟩)] w fun e w' => e = .returned (.int .i64 (Ix.cnt T n)) ∧ w' = w := by
  have hc := h.cells.2.1
  clear h
  go_enter Try.func11, Try.ntmps11
  go_wp2
  go_ret
  exact ⟨rfl, rfl⟩
set_option maxHeartbeats 400000 in
theorem home_any {n : Nat} (hn : n ≤ 131072) (k : Int) (w : World) :
    Calls Try.prog 25 #[.int .u64 k, .int .i64 n] w fun e w' => e = .returned (.int .i64 (hm n k)) ∧ w' = w := by
  have h1 : 0 ≤ (k * 11400714819323198485) % 18446744073709551616 := Int.emod_nonneg _ (by decide)
  have h2 : (k * 11400714819323198485) % 18446744073709551616 < 18446744073709551616 := Int.emod_lt_of_pos _ (by decide)
  have e1 : IntKind.u64.wrap (k * 11400714819323198485) = (k * 11400714819323198485) % 18446744073709551616 := by simp [IntKind.wrap, IntKind.bits, IntKind.signed]
  have HM : hm n k = ((k * 11400714819323198485) % 18446744073709551616 * n / 18446744073709551616).toNat := rfl
  obtain ⟨x, hx⟩ := Int.eq_ofNat_of_zero_le h1
  rw [hx] at e1 HM h2
  have hlt : x < 18446744073709551616 := by omega
  have hM := Try.bits_Mul64 x n hlt (by omega) w
  have hy : x * n / 18446744073709551616 = hm n k := by
    rw [HM, ← Int.natCast_mul]; generalize x * n = m; omega
  rw [hy] at hM
  have hb : hm n k ≤ 131072 := by
    rcases Nat.eq_zero_or_pos n with h0 | h0
    · subst h0; rw [← hy]; simp
    · have := hm_lt h0 k; omega
  have e2 : IntKind.u64.wrap (n : Int) = (n : Int) := by simp [IntKind.wrap, IntKind.bits, IntKind.signed]; omega
  have e3 : IntKind.i64.wrap (hm n k : Int) = (hm n k : Int) := by simp [IntKind.wrap, IntKind.bits, IntKind.signed]; omega
  clear h1 h2 hx HM hy
  generalize hm n k = y at *
  generalize x * n % 18446744073709551616 = z at *
  clear hlt hb
  go_enter Try.func25, Try.ntmps25
  go_wp2_with (first | (go_at_call 37; with_reducible refine hM.mono ?_; rintro e w9 ⟨rfl, rfl⟩))
  go_ret
  exact ⟨rfl, rfl⟩
end Go.Proofs.Ythidnipmkffilaa
