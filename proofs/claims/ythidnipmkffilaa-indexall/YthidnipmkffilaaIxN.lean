/-
  A new index.
-/
import Derived.Test.YthidnipmkffilaaIxE
import Derived.Laws.MakeOwn
namespace Go.Proofs.Ythidnipmkffilaa
open Go.RowKit Go.Deep
set_option linter.unusedVariables false
set_option linter.unusedSimpArgs false
/-- how many places there are for so much room. -/
def pn (room : Nat) : Nat := 2 ^ Lib.bitLen (2 * room - 1)
theorem bl_bounds : ∀ (f x : Nat), x < 2 ^ f → x ≠ 0 → 1 ≤ Lib.bitLenAux f x ∧ 2 ^ (Lib.bitLenAux f x - 1) ≤ x ∧ x < 2 ^ Lib.bitLenAux f x := by
  intro f
  induction f with
  | zero => intro x h h0; simp at h; omega
  | succ f ih =>
    intro x h h0
    simp only [Lib.bitLenAux, h0, if_false]
    by_cases hz : x / 2 = 0
    · have hx : x = 1 := by omega
      subst hx
      have : Lib.bitLenAux f (1 / 2) = 0 := by cases f <;> simp [Lib.bitLenAux]
      rw [this]; simp
    · obtain ⟨a, b, c⟩ := ih (x / 2) (by rw [Nat.pow_succ] at h; omega) hz
      generalize Lib.bitLenAux f (x / 2) = m at *
      obtain ⟨m', rfl⟩ : ∃ m', m = m' + 1 := ⟨m - 1, by omega⟩
      have e : 1 + (m' + 1) - 1 = m' + 1 := by omega
      have e2 : 1 + (m' + 1) = m' + 1 + 1 := by omega
      rw [e, e2]
      simp only [Nat.add_sub_cancel] at b
      rw [Nat.pow_succ 2 (m' + 1)]
      rw [Nat.pow_succ] at c ⊢
      omega
theorem pn_facts {room : Nat} (h1 : 1 ≤ room) (h2 : room ≤ 65536) : 2 * room ≤ pn room ∧ pn room ≤ 131072 ∧ pn room < 4 * room ∧ Lib.bitLen (2 * room - 1) ≤ 17 := by
  have hb := bl_bounds 64 (2 * room - 1) (by omega) (by omega)
  have hl := Lib.bitLen_le (2 * room - 1) 17 (by omega) (by omega)
  change 1 ≤ Lib.bitLen (2 * room - 1) ∧ 2 ^ (Lib.bitLen (2 * room - 1) - 1) ≤ 2 * room - 1 ∧ 2 * room - 1 < 2 ^ Lib.bitLen (2 * room - 1) at hb
  unfold pn
  generalize Lib.bitLen (2 * room - 1) = b at *
  obtain ⟨c, rfl⟩ : ∃ c, b = c + 1 := ⟨b - 1, by omega⟩
  have hp := Nat.pow_le_pow_right (n := 2) (by omega) hl
  rw [Nat.pow_succ] at *
  simp only [Nat.add_sub_cancel] at hb
  omega
set_option maxHeartbeats 400000 in
theorem placesFor_any {room : Nat} (h1 : 1 ≤ room) (h2 : room ≤ 65536) (w : World) :
    Calls Try.prog 32 #[.int .i64 room] w fun e w' => e = .returned (.int .i64 (pn room)) ∧ w' = w := by
  have hL := Try.bits_Len (((2 * room - 1 : Nat) : Int)) w (by omega) (by omega)
  obtain ⟨p1, p2, p3, p4⟩ := pn_facts h1 h2
  have e1 : IntKind.u64.wrap (2 * (room : Int) - 1) = ((2 * room - 1 : Nat) : Int) := by simp [IntKind.wrap, IntKind.bits, IntKind.signed]; omega
  go_enter Try.func32, Try.ntmps32
  go_wp2_with (first | (go_at_call 43; with_reducible refine hL.mono ?_; rintro e w9 ⟨rfl, h9⟩; subst w9))
  go_ret
  have e2 : wrap64 (2 ^ Lib.bitLen (2 * room - 1)) = (pn room : Int) := by
    have e3 : ((2 : Int) ^ Lib.bitLen (2 * room - 1)) = (pn room : Int) := by unfold pn; simp
    rw [e3]; unfold wrap64; omega
  exact ⟨by rw [e2]; rfl, rfl⟩
theorem info71all : (Try.prog.info? 71).map (fun i => (i.zero, i.size, i.bytes)) = some (some (.agg #[.bool false, .int .u64 0, .int .i64 0]), 3, 24) := by kernel_rfl
theorem info_parts {t : TypeId} {z : Value} {a b : Nat} (h : (Try.prog.info? t).map (fun i => (i.zero, i.size, i.bytes)) = some (some z, a, b)) : ∃ i, Try.prog.info? t = some i ∧ i.zero = some z ∧ i.size = a ∧ i.bytes = b := by
  cases hi : Try.prog.info? t with
  | none => rw [hi] at h; simp at h
  | some i =>
    rw [hi] at h
    simp only [Option.map_some, Option.some.injEq, Prod.mk.injEq] at h
    exact ⟨i, rfl, h.1, h.2.1, h.2.2⟩
/-- the cells of an empty table. -/
def zc (n : Nat) : Array Value := madeCells #[.bool false, .int .u64 0, .int .i64 0] (n * 3)
theorem zc_size (n : Nat) : (zc n).size = 3 * n := by simp [zc, madeCells]; omega
theorem zc_at {n i : Nat} (hi : i < n) : (zc n)[i * 3]? = some (.bool false) ∧ (zc n)[i * 3 + 1]? = some (.int .u64 0) ∧ (zc n)[i * 3 + 2]? = some (.int .i64 0) := by
  have key : ∀ j, j < n * 3 → (zc n)[j]? = some ((#[.bool false, .int .u64 0, .int .i64 0] : Array Value)[j % 3]!) := by
    intro j hj
    unfold zc madeCells
    rw [Array.getElem?_map, Array.getElem?_range]
    simp [hj]
  refine ⟨?_, ?_, ?_⟩
  · rw [key _ (by omega)]; have : i * 3 % 3 = 0 := by omega
    rw [this]; rfl
  · rw [key _ (by omega)]; have : (i * 3 + 1) % 3 = 1 := by omega
    rw [this]; rfl
  · rw [key _ (by omega)]; have : (i * 3 + 2) % 3 = 2 := by omega
    rw [this]; rfl
theorem pl_zc {w : World} {P n : Nat} (h : w.heap[P]? = some (.cells (zc n) 71 (0, 0))) : Pl w P n Ix.nil := ⟨_, h, zc_size n, fun i hi => zc_at hi⟩
set_option maxHeartbeats 400000 in
theorem new_bad {room : Int} (h : room < 1 ∨ 65536 < room) (w : World) :
    Calls Try.prog 17 #[.int .i64 room] w fun e w' => e = .returned (.tuple #[.pointer none, .int .i64 1]) ∧ w' = w := by
  by_cases h1 : room < 1
  · go_enter Try.func17, Try.ntmps17
    go_wp2
    go_ret2
    exact ⟨rfl, rfl⟩
  · have h2 : 65536 < room := by omega
    go_enter Try.func17, Try.ntmps17
    go_wp2
    go_ret2
    exact ⟨rfl, rfl⟩
set_option maxHeartbeats 1000000 in
theorem new_any {room : Nat} (h1 : 1 ≤ room) (h2 : room ≤ 65536) (w : World) :
    Calls Try.prog 17 #[.int .i64 room] w fun e w' => ∃ X P, e = .returned (.tuple #[.pointer (some ⟨X, 0, none⟩), .int .i64 0]) ∧ Lx w' X P (pn room) room Ix.nil ∧ w.heap.size ≤ X ∧ w.heap.size ≤ P ∧ Below w.heap.size w w' := by
  have hP := placesFor_any h1 h2
  obtain ⟨p1, p2, p3, p4⟩ := pn_facts h1 h2
  obtain ⟨i0, hi, hz0, hz1, hz2⟩ := info_parts info71all
  have hmk : ∀ u : World, (Instr.makeSlice 67 (.int .i64 (pn room : Nat)) (.int .i64 (pn room : Nat))).run Try.prog u = .ok (.slice (some ⟨u.heap.size, 0, none⟩) (pn room) (pn room)) (u.alloc (.cells (zc (pn room)) 71)) := fun u => by
    have := run_make (P := Try.prog) u 67 71 i0 (.agg #[.bool false, .int .u64 0, .int .i64 0]) Try.underlying67 hi hz0 .i64 .i64 (pn room : Nat) (pn room : Nat) (by omega) (by omega) (by rw [hz2]; omega) (by omega)
    rw [hz1] at this
    simpa [Value.cells, zc] using this
  have i1 : ¬ (room : Int) < 1 := by omega
  have i2 : ¬ 65536 < (room : Int) := by omega
  have HP := hid (And.intro p1 p2)
  have hpow : ∃ k, pn room = 2 ^ k := ⟨_, rfl⟩
  have HPW := hid hpow
  generalize pn room = n at *
  clear hi hz0 hz1 hz2 p3 p4 hpow
  go_enter Try.func17, Try.ntmps17
  go_wp2_with (first | (go_at_call 32; with_reducible refine (hP _).mono ?_; rintro e w9 ⟨rfl, h9⟩; subst w9))
  go_ret2
  refine ⟨w.heap.size + 1, w.heap.size, rfl, ⟨?_, ?_, HPW.out, HP.out.1, h1, HP.out.2, by rw [Ix.cnt_nil]; omega, fun i k v _ e => by simp [Ix.nil] at e⟩, by omega, Nat.le_refl _, btr (ball w (Obj.cells (zc n) 71)) (ball _ _)⟩
  · rw [Ix.cnt_nil]
    have := heap_alloc_new (w.alloc (Obj.cells (zc n) 71)) (Obj.cells #[Value.int IntKind.i64 room, Value.int IntKind.i64 0, Value.slice (some ⟨w.heap.size, 0, none⟩) n n] 69)
    simpa using this
  · refine pl_zc ?_
    have h3 := heap_alloc_new w (Obj.cells (zc n) 71)
    exact row_on h3 (ball _ _)
/-- the slots of a table in block S. -/
def Sl (w : World) (S n : Nat) (T : Ix.Tab) (m : Nat) : Prop :=
  ∃ cs : Array Value, w.heap[S]? = some (.cells cs 64 (0, 0)) ∧ cs.size = 2 * n ∧
    (∀ i, i < n → (cs[i * 2]?).isSome = true ∧ (cs[i * 2 + 1]?).isSome = true) ∧ ∀ i, i < m → i < n → cs[i * 2]? = some (.bool (eU (T i))) ∧ cs[i * 2 + 1]? = some (.int .u64 (eK (T i)))
theorem Sl.same {w w' : World} {S n m : Nat} {T : Ix.Tab} (h : Sl w S n T m) (e : w'.heap[S]? = w.heap[S]?) : Sl w' S n T m := by
  obtain ⟨cs, h1, h2⟩ := h
  exact ⟨cs, e.trans h1, h2⟩
theorem Sl.lt {w : World} {S n m : Nat} {T : Ix.Tab} (h : Sl w S n T m) : S < w.heap.size := by obtain ⟨cs, h1, _⟩ := h; exact row_lt h1
theorem Sl.on {w w' : World} {S n m : Nat} {T : Ix.Tab} (h : Sl w S n T m) (hb : Below w.heap.size w w') : Sl w' S n T m := h.same (hb.block _ h.lt)
theorem Sl.kp {B : Nat → Prop} {w w' : World} {S n m : Nat} {T : Ix.Tab} (h : Sl w S n T m) (k : Kp B w w') (hB : ¬ B S) : Sl w' S n T m := h.same (k.obj _ h.lt hB)
theorem Sl.cell {w : World} {S n m : Nat} {T : Ix.Tab} (h : Sl w S n T m) {i : Nat} (hm : i < m) (hn : i < n) : w.cell? ⟨S, i * 2, none⟩ = some (.bool (eU (T i))) ∧ w.cell? ⟨S, i * 2 + 1, none⟩ = some (.int .u64 (eK (T i))) := by
  obtain ⟨cs, h1, h2, h3, h4⟩ := h
  rw [row_cell h1, row_cell h1]; exact h4 i hm hn
theorem Sl.some {w : World} {S n m : Nat} {T : Ix.Tab} (h : Sl w S n T m) {i : Nat} (hn : i < n) : ∃ a b, w.cell? ⟨S, i * 2, none⟩ = .some a ∧ w.cell? ⟨S, i * 2 + 1, none⟩ = .some b := by
  obtain ⟨cs, h1, h2, h3, h4⟩ := h
  rw [row_cell h1, row_cell h1]
  obtain ⟨a, b⟩ := h3 i hn
  exact ⟨_, _, Option.eq_some_of_isSome a, Option.eq_some_of_isSome b⟩
theorem Sl.frozen {w : World} {S n m : Nat} {T : Ix.Tab} (h : Sl w S n T m) (j : Nat) : w.frozen? ⟨S, j, none⟩ = false := by
  obtain ⟨cs, h1, _⟩ := h; exact frozen_of_row w S j _ _ h1
theorem Sl.more {w : World} {S n m : Nat} {T : Ix.Tab} (h : Sl w S n T m) (hm : m < n) : Sl ((w.setCell ⟨S, m * 2, none⟩ (.bool (eU (T m)))).setCell ⟨S, m * 2 + 1, none⟩ (.int .u64 (eK (T m)))) S n T (m + 1) := by
  obtain ⟨cs, h1, h2, h3, h4⟩ := h
  refine ⟨_, heap_setCell_same _ _ _ _ _ _ (heap_setCell_same _ _ _ _ _ _ h1), by simp [h2], ?_, ?_⟩
  · intro i hi
    have hz : ((cs.setIfInBounds (m * 2) (.bool (eU (T m)))).setIfInBounds (m * 2 + 1) (.int .u64 (eK (T m)))).size = 2 * n := by simp [h2]
    generalize (cs.setIfInBounds (m * 2) (.bool (eU (T m)))).setIfInBounds (m * 2 + 1) (.int .u64 (eK (T m))) = ds at *
    simp [hz]; omega
  · intro i hi hn
    by_cases him : i = m
    · subst him
      refine ⟨?_, ?_⟩ <;> simp [Array.getElem?_setIfInBounds, h2] <;> omega
    · obtain ⟨a, b⟩ := h4 i (by omega) hn
      rw [Array.getElem?_setIfInBounds_ne (by omega), Array.getElem?_setIfInBounds_ne (by omega), Array.getElem?_setIfInBounds_ne (by omega), Array.getElem?_setIfInBounds_ne (by omega)]
      exact ⟨a, b⟩
theorem info64all : (Try.prog.info? 64).map (fun i => (i.zero, i.size, i.bytes)) = .some (.some (.agg #[.bool false, .int .u64 0]), 2, 16) := by kernel_rfl
def sc (n : Nat) : Array Value := madeCells #[.bool false, .int .u64 0] (n * 2)
theorem sl_sc {w : World} {S n : Nat} (T : Ix.Tab) (h : w.heap[S]? = .some (.cells (sc n) 64 (0, 0))) : Sl w S n T 0 := by
  have hz : (sc n).size = 2 * n := by simp [sc, madeCells]; omega
  refine ⟨_, h, hz, ?_, fun i hi => by omega⟩
  intro i hi
  simp [hz]; omega
set_option maxHeartbeats 2000000 in
set_option maxRecDepth 100000 in
theorem slots_any {w : World} {X P n room : Nat} {T : Ix.Tab} (h : Lx w X P n room T) :
    Calls Try.prog 12 #[.pointer (.some ⟨X, 0, none⟩)] w fun e w' => ∃ S, e = .returned (.slice (.some ⟨S, 0, none⟩) n n) ∧ w.heap.size ≤ S ∧ Sl w' S n T n ∧ Below w.heap.size w w' := by
  have hm := h.most
  obtain ⟨i0, hi, hz0, hz1, hz2⟩ := info_parts info64all
  have hmk : ∀ u : World, (Instr.makeSlice 29 (.int .i64 (n : Nat)) (.int .i64 (n : Nat))).run Try.prog u = .ok (.slice (.some ⟨u.heap.size, 0, none⟩) n n) (u.alloc (.cells (sc n) 64)) := fun u => by
    have := run_make (P := Try.prog) u 29 64 i0 (.agg #[.bool false, .int .u64 0]) Try.underlying29 hi hz0 .i64 .i64 (n : Nat) (n : Nat) (by omega) (by omega) (by rw [hz2]; omega) (by omega)
    rw [hz1] at this
    simpa [Value.cells, sc] using this
  have hc := h.cells.2.2
  have ltX := h.ltX
  have hne : ¬ X = w.heap.size := by omega
  have HL := hid h
  have HS := hid (sl_sc T (heap_alloc_new w (.cells (sc n) 64)))
  clear hi hz0 hz1 hz2 h
  go_enter Try.func12, Try.ntmps12
  go_wp2_with fail
  go_loopw [17] (fun iv wr => ∃ i : Nat, i ≤ n ∧ iv = .int .i64 i ∧ Hid (Sl wr w.heap.size n T i) ∧ Hid (Below w.heap.size w wr)) (fun iv _ => n - (intOf iv).toNat)
  case atStart => exact ⟨0, Nat.zero_le _, rfl, HS, hid (ball _ _)⟩
  case round =>
    obtain ⟨i, hi, rfl, HI, HB⟩ := hrel
    clear HS hmk
    by_cases hin : i < n
    · have L := HL.out.kp (Kp.ofBelow (fun _ => False) HB.out) (fun h => h) (fun h => h)
      obtain ⟨c0, c1, c2⟩ := L.pl.cell hin
      obtain ⟨a0, a1, b0, b1⟩ := HI.out.some hin
      have g0 := HI.out.frozen (i * 2)
      have g1 := HI.out.frozen (i * 2 + 1)
      have hSl := HI.out.lt
      have hPl := L.ltP
      have f1 : (i : Int) < (n : Int) := by omega
      have f2 : (0 : Int) ≤ (i : Int) := by omega
      have ct1 : ((i : Int)).toNat = i := by omega
      have n1 : ¬ w.heap.size = wr.heap.size := by omega
      have n2 : ¬ P = wr.heap.size := by omega
      obtain ⟨x0, hx0⟩ : ∃ x, eU (T i) = x := ⟨_, rfl⟩
      obtain ⟨x1, hx1⟩ : ∃ x, eK (T i) = x := ⟨_, rfl⟩
      obtain ⟨x2, hx2⟩ : ∃ x, eV (T i) = x := ⟨_, rfl⟩
      rw [hx0] at c0
      rw [hx1] at c1
      rw [hx2] at c2
      have HX := hid (And.intro hx0 hx1)
      have wj : IntKind.i64.wrap ((i : Int) + 1) = ((i + 1 : Nat) : Int) := by simp [IntKind.wrap, IntKind.bits, IntKind.signed]; omega
      have HJM := hid (show i + 1 ≤ n ∧ n - (i + 1) < n - i by omega)
      obtain ⟨j1, hj1⟩ : ∃ j1, i + 1 = j1 := ⟨_, rfl⟩
      rw [hj1] at wj HJM
      have HJ := hid hj1
      have HIN := hid hin
      clear hi hin hj1 L hx0 hx1 hx2 ltX hne hc
      go_wp2_with fail
      refine ⟨⟨j1, HJM.out.1, rfl, hid ?_, hid ?_⟩, by simpa [intOf] using HJM.out.2⟩
      · have := HI.out.more HIN.out
        rw [HX.out.1, HX.out.2, HJ.out] at this
        exact this.on (ball _ _)
      · exact (((HB.out.setCell (Nat.le_refl _) _).setCell (Nat.le_refl _) _)).trans ((ball _ _).mono (by simp; have := HB.out.size; omega))
    · have hn : i = n := by omega
      subst hn
      have f1 : ¬ (i : Int) < (i : Int) := by omega
      clear hi hin
      go_wp2_with fail
      go_ret
      exact ⟨_, rfl, Nat.le_refl _, HI.out, HB.out⟩
end Go.Proofs.Ythidnipmkffilaa
