/-
  The document's index in memory: New, Home.
-/
import Derived.Test.YthidnipmkffilaaIxN
namespace Go.Proofs.Ythidnipmkffilaa
open Go.RowKit Go.Deep
set_option linter.unusedVariables false
set_option linter.unusedSimpArgs false
/-- the document's table lies in block P: n places of three cells each. -/
def PlR (w : World) (P n : Nat) (T : Ix.Tab) : Prop :=
  ∃ cs : Array Value, w.heap[P]? = some (.cells cs 74 (0, 0)) ∧ cs.size = 3 * n ∧
    ∀ i, i < n → cs[i * 3]? = some (.bool (eU (T i))) ∧ cs[i * 3 + 1]? = some (.int .u64 (eK (T i))) ∧ cs[i * 3 + 2]? = some (.int .i64 (eV (T i)))

/-- the document's index lies in block X, its places in P. -/
structure Rx (w : World) (X P n room : Nat) (T : Ix.Tab) : Prop where
  row : w.heap[X]? = some (.cells #[.int .i64 room, .int .i64 (Ix.cnt T n), .slice (some ⟨P, 0, none⟩) n n] 33 (0, 0))
  pl : PlR w P n T
  pow : ∃ k, n = 2 ^ k
  two : 2 * room ≤ n
  one : 1 ≤ room
  most : n ≤ 131072
  le : Ix.cnt T n ≤ room
  keys : ∀ i k v, i < n → T i = some (k, v) → 0 ≤ k ∧ k ≤ 18446744073709551615

theorem PlR.cell {w : World} {P n : Nat} {T : Ix.Tab} (h : PlR w P n T) {i : Nat} (hi : i < n) :
    w.cell? ⟨P, i * 3, none⟩ = some (.bool (eU (T i))) ∧ w.cell? ⟨P, i * 3 + 1, none⟩ = some (.int .u64 (eK (T i))) ∧ w.cell? ⟨P, i * 3 + 2, none⟩ = some (.int .i64 (eV (T i))) := by
  obtain ⟨cs, h1, h2, h3⟩ := h
  rw [row_cell h1, row_cell h1, row_cell h1]
  exact h3 i hi
theorem PlR.same {w w' : World} {P n : Nat} {T : Ix.Tab} (h : PlR w P n T) (e : w'.heap[P]? = w.heap[P]?) : PlR w' P n T := by
  obtain ⟨cs, h1, h2⟩ := h
  exact ⟨cs, e.trans h1, h2⟩
theorem Rx.cells {w : World} {X P n room : Nat} {T : Ix.Tab} (h : Rx w X P n room T) :
    w.cell? ⟨X, 0, none⟩ = some (.int .i64 room) ∧ w.cell? ⟨X, 1, none⟩ = some (.int .i64 (Ix.cnt T n)) ∧ w.cell? ⟨X, 2, none⟩ = some (.slice (some ⟨P, 0, none⟩) n n) :=
  ⟨row_cell h.row 0, row_cell h.row 1, row_cell h.row 2⟩
theorem Rx.kp {B : Nat → Prop} {w w' : World} {X P n room : Nat} {T : Ix.Tab} (h : Rx w X P n room T) (k : Kp B w w') (hX : ¬ B X) (hP : ¬ B P) : Rx w' X P n room T := by
  obtain ⟨cs, h1, h2⟩ := h.pl
  exact { h with row := k.row h.row hX, pl := ⟨cs, k.row h1 hP, h2⟩ }
theorem Rx.drew {w : World} {X P n room : Nat} {T : Ix.Tab} (h : Rx w X P n room T) : Rx w.drew X P n room T := h.kp (Kp.drew (fun _ => False) w) (fun h => h) (fun h => h)
theorem Rx.ltX {w : World} {X P n room : Nat} {T : Ix.Tab} (h : Rx w X P n room T) : X < w.heap.size := row_lt h.row
theorem Rx.ltP {w : World} {X P n room : Nat} {T : Ix.Tab} (h : Rx w X P n room T) : P < w.heap.size := by obtain ⟨cs, h1, _⟩ := h.pl; exact row_lt h1
theorem Rx.neXP {w : World} {X P n room : Nat} {T : Ix.Tab} (h : Rx w X P n room T) : X ≠ P := by
  intro e; obtain ⟨cs, h1, _⟩ := h.pl; rw [← e, h.row] at h1; simp at h1
theorem Rx.pos {w : World} {X P n room : Nat} {T : Ix.Tab} (h : Rx w X P n room T) : 2 ≤ n := by have := h.two; have := h.one; omega
theorem Rx.free {w : World} {X P n room : Nat} {T : Ix.Tab} (h : Rx w X P n room T) : ∃ e, e < n ∧ T e = none := Ix.cnt_free (by have := h.two; have := h.one; have := h.le; omega)

/-- an index of which the count is not told. -/
structure Rc (w : World) (X P n room : Nat) (c : Int) (T : Ix.Tab) : Prop where
  row : w.heap[X]? = some (.cells #[.int .i64 room, .int .i64 c, .slice (some ⟨P, 0, none⟩) n n] 33 (0, 0))
  pl : PlR w P n T
theorem Rx.rc {w : World} {X P n room : Nat} {T : Ix.Tab} (h : Rx w X P n room T) : Rc w X P n room (Ix.cnt T n) T := ⟨h.row, h.pl⟩
theorem Rc.kp {B : Nat → Prop} {w w' : World} {X P n room : Nat} {c : Int} {T : Ix.Tab} (h : Rc w X P n room c T) (k : Kp B w w') (hX : ¬ B X) (hP : ¬ B P) : Rc w' X P n room c T := by
  obtain ⟨cs, h1, h2⟩ := h.pl
  exact ⟨k.row h.row hX, ⟨cs, k.row h1 hP, h2⟩⟩
theorem Rc.neXP {w : World} {X P n room : Nat} {c : Int} {T : Ix.Tab} (h : Rc w X P n room c T) : X ≠ P := by
  intro e; obtain ⟨cs, h1, _⟩ := h.pl; rw [← e, h.row] at h1; simp at h1
theorem Rc.ltX {w : World} {X P n room : Nat} {c : Int} {T : Ix.Tab} (h : Rc w X P n room c T) : X < w.heap.size := row_lt h.row
theorem Rc.ltP {w : World} {X P n room : Nat} {c : Int} {T : Ix.Tab} (h : Rc w X P n room c T) : P < w.heap.size := by obtain ⟨cs, h1, _⟩ := h.pl; exact row_lt h1
theorem Rc.cells {w : World} {X P n room : Nat} {c : Int} {T : Ix.Tab} (h : Rc w X P n room c T) :
    w.cell? ⟨X, 0, none⟩ = some (.int .i64 room) ∧ w.cell? ⟨X, 1, none⟩ = some (.int .i64 c) ∧ w.cell? ⟨X, 2, none⟩ = some (.slice (some ⟨P, 0, none⟩) n n) :=
  ⟨row_cell h.row 0, row_cell h.row 1, row_cell h.row 2⟩
theorem PlR.set {w : World} {P n : Nat} {T : Ix.Tab} (h : PlR w P n T) {i : Nat} (hi : i < n) (x : Option (Int × Int)) : PlR (w3 w P i (.bool (eU x)) (.int .u64 (eK x)) (.int .i64 (eV x))) P n (Ix.up T i x) := by
  obtain ⟨cs, h1, h2, h3⟩ := h
  refine ⟨_, w3_heap h1 _ _ _, by simp [h2], ?_⟩
  intro j hj
  by_cases hji : j = i
  · subst hji
    rw [Ix.up_same]
    refine ⟨?_, ?_, ?_⟩ <;> simp [Array.getElem?_setIfInBounds, h2] <;> omega
  · rw [Ix.up_other _ _ hji]
    obtain ⟨q0, q1, q2⟩ := h3 j hj
    refine ⟨?_, ?_, ?_⟩
    · rw [Array.getElem?_setIfInBounds_ne (by omega), Array.getElem?_setIfInBounds_ne (by omega), Array.getElem?_setIfInBounds_ne (by omega)]; exact q0
    · rw [Array.getElem?_setIfInBounds_ne (by omega), Array.getElem?_setIfInBounds_ne (by omega), Array.getElem?_setIfInBounds_ne (by omega)]; exact q1
    · rw [Array.getElem?_setIfInBounds_ne (by omega), Array.getElem?_setIfInBounds_ne (by omega), Array.getElem?_setIfInBounds_ne (by omega)]; exact q2
theorem Rc.set {w : World} {X P n room : Nat} {c : Int} {T : Ix.Tab} (h : Rc w X P n room c T) {i : Nat} (hi : i < n) (x : Option (Int × Int)) : Rc (w3 w P i (.bool (eU x)) (.int .u64 (eK x)) (.int .i64 (eV x))) X P n room c (Ix.up T i x) :=
  ⟨(Kp.w3 (B := fun b => b = P) rfl i _ _ _).row h.row h.neXP, h.pl.set hi x⟩
theorem Rc.count {w : World} {X P n room : Nat} {c : Int} {T : Ix.Tab} (h : Rc w X P n room c T) (d : Int) : Rc (w.setCell ⟨X, 1, none⟩ (.int .i64 d)) X P n room d T := by
  refine ⟨?_, h.pl.same (heap_setCell_other _ _ _ _ (Ne.symm h.neXP))⟩
  rw [heap_setCell_same _ _ _ _ _ _ h.row]; simp
theorem Rc.drewN {w : World} {X P n room : Nat} {c : Int} {T : Ix.Tab} (h : Rc w X P n room c T) (m : Nat) : Rc (w.drewN m) X P n room c T := h.kp (Kp.drewN (fun _ => False) w m) (fun h => h) (fun h => h)
theorem Rx.ofLc {w w' : World} {X P n room : Nat} {c : Int} {T T' : Ix.Tab} (h : Rx w X P n room T) (h' : Rc w' X P n room c T') (hc : c = Ix.cnt T' n) (hle : Ix.cnt T' n ≤ room) (hk : ∀ i k v, i < n → T' i = some (k, v) → 0 ≤ k ∧ k ≤ 18446744073709551615) : Rx w' X P n room T' :=
  { row := by rw [← hc]; exact h'.row, pl := h'.pl, pow := h.pow, two := h.two, one := h.one, most := h.most, le := hle, keys := hk }
theorem PlR.frozen {w : World} {P n : Nat} {T : Ix.Tab} (h : PlR w P n T) (j : Nat) : w.frozen? ⟨P, j, none⟩ = false := by
  obtain ⟨cs, h1, _⟩ := h; exact frozen_of_row w P j _ _ h1
theorem Rc.frozen {w : World} {X P n room : Nat} {c : Int} {T : Ix.Tab} (h : Rc w X P n room c T) (j : Nat) : w.frozen? ⟨X, j, none⟩ = false := frozen_of_row w X j _ _ h.row

theorem info74all : (Try.prog.info? 74).map (fun i => (i.zero, i.size, i.bytes)) = some (some (.agg #[.bool false, .int .u64 0, .int .i64 0]), 3, 24) := by kernel_rfl
theorem plr_zc {w : World} {P n : Nat} (h : w.heap[P]? = some (.cells (zc n) 74 (0, 0))) : PlR w P n Ix.nil := ⟨_, h, zc_size n, fun i hi => zc_at hi⟩
set_option maxHeartbeats 400000 in
theorem rnew_bad {room : Int} (h : room < 1 ∨ 65536 < room) (w : World) :
    Calls Try.prog 24 #[.int .i64 room] w fun e w' => e = .returned (.tuple #[.pointer none, .int .i64 1]) ∧ w' = w := by
  by_cases h1 : room < 1
  · go_enter Try.func24, Try.ntmps24
    go_wp2
    go_ret2
    exact ⟨rfl, rfl⟩
  · have h2 : 65536 < room := by omega
    go_enter Try.func24, Try.ntmps24
    go_wp2
    go_ret2
    exact ⟨rfl, rfl⟩
theorem pn_step {room : Nat} (h1 : 1 ≤ room) (h2 : room ≤ 65536) (j : Nat) : 2 ^ j < 2 * room ↔ j < Lib.bitLen (2 * room - 1) := by
  have hb := bl_bounds 64 (2 * room - 1) (by omega) (by omega)
  change 1 ≤ Lib.bitLen (2 * room - 1) ∧ 2 ^ (Lib.bitLen (2 * room - 1) - 1) ≤ 2 * room - 1 ∧ 2 * room - 1 < 2 ^ Lib.bitLen (2 * room - 1) at hb
  generalize Lib.bitLen (2 * room - 1) = b at *
  constructor
  · intro h
    rcases Nat.lt_or_ge j b with h3 | h3
    · exact h3
    · have := Nat.pow_le_pow_right (n := 2) (by omega) h3; omega
  · intro h
    have := Nat.pow_le_pow_right (n := 2) (by omega) (show j ≤ b - 1 by omega); omega
set_option maxHeartbeats 1000000 in
set_option maxRecDepth 100000 in
theorem rnew_any {room : Nat} (h1 : 1 ≤ room) (h2 : room ≤ 65536) (w : World) :
    Calls Try.prog 24 #[.int .i64 room] w fun e w' => ∃ X P, e = .returned (.tuple #[.pointer (some ⟨X, 0, none⟩), .int .i64 0]) ∧ Rx w' X P (pn room) room Ix.nil ∧ w.heap.size ≤ X ∧ w.heap.size ≤ P ∧ Below w.heap.size w w' := by
  obtain ⟨p1, p2, p3, p4⟩ := pn_facts h1 h2
  obtain ⟨i0, hi, hz0, hz1, hz2⟩ := info_parts info74all
  have hmk : ∀ u : World, (Instr.makeSlice 31 (.int .i64 (pn room : Nat)) (.int .i64 (pn room : Nat))).run Try.prog u = .ok (.slice (some ⟨u.heap.size, 0, none⟩) (pn room) (pn room)) (u.alloc (.cells (zc (pn room)) 74)) := fun u => by
    have := run_make (P := Try.prog) u 31 74 i0 (.agg #[.bool false, .int .u64 0, .int .i64 0]) Try.underlying31 hi hz0 .i64 .i64 (pn room : Nat) (pn room : Nat) (by omega) (by omega) (by rw [hz2]; omega) (by omega)
    rw [hz1] at this
    simpa [Value.cells, zc] using this
  have i1 : ¬ (room : Int) < 1 := by omega
  have i2 : ¬ 65536 < (room : Int) := by omega
  have HP := hid (And.intro p1 p2)
  have hpow : ∃ k, pn room = 2 ^ k := ⟨_, rfl⟩
  have HPW := hid hpow
  have HPE := hid (show pn room = 2 ^ Lib.bitLen (2 * room - 1) from rfl)
  have HST := hid (pn_step h1 h2)
  have H4 := hid p4
  generalize pn room = n at *
  generalize Lib.bitLen (2 * room - 1) = b at *
  clear hi hz0 hz1 hz2 p3 p4 hpow p1
  have HMK := hid hmk
  clear hmk
  go_enter Try.func24, Try.ntmps24
  go_wp2_with fail
  go_loopw [4] (fun nv wr => ∃ j : Nat, j ≤ b ∧ nv = .int .i64 ((2 ^ j : Nat) : Int) ∧ wr = w) (fun nv _ => 2 * room - (intOf nv).toNat)
  case atStart => exact ⟨0, Nat.zero_le _, by simp, rfl⟩
  case round =>
    obtain ⟨j, hj, rfl, rfl⟩ := hrel
    by_cases hjb : j < b
    · have hs := (HST.out j).2 hjb
      have hpos : 0 < 2 ^ j := Nat.two_pow_pos j
      have HM := hid (show j + 1 ≤ b ∧ 2 * room - 2 ^ (j + 1) < 2 * room - 2 ^ j by rw [Nat.pow_succ]; omega)
      have e1 : ((2 ^ (j + 1) : Nat) : Int) = 2 * ((2 ^ j : Nat) : Int) := by rw [Nat.pow_succ]; omega
      have HE1 := hid e1
      have HQ := hid hpos
      obtain ⟨y, hy⟩ : ∃ y, 2 ^ (j + 1) = y := ⟨_, rfl⟩
      rw [hy] at HM HE1
      have HY := hid hy
      generalize 2 ^ j = x at *
      have f1 : (x : Int) < 2 * (room : Int) := by omega
      clear hj hjb hs hpos e1 hy
      go_wp2_with fail
      go_roundw
      case rel => exact ⟨j + 1, HM.out.1, by rw [HY.out, HE1.out], by first | trivial | rfl⟩
      case measure =>
        have := HM.out.2
        have h3 := HE1.out
        simp only [intOf]
        omega
    · have hb : j = b := by omega
      subst hb
      have hs : ¬ 2 ^ j < 2 * room := fun h => hjb ((HST.out j).1 h)
      rw [← HPE.out] at hs ⊢
      have f1 : ¬ (n : Int) < 2 * (room : Int) := by omega
      have hmk := HMK.out
      clear hj hjb hs
      go_wp2_with fail
      go_ret2
      refine ⟨wr.heap.size + 1, rfl, wr.heap.size, ⟨?_, ?_, HPW.out, HP.out.1, h1, HP.out.2, by rw [Ix.cnt_nil]; omega, fun i k v _ e => by simp [Ix.nil] at e⟩, by omega, Nat.le_refl _, btr (ball wr (Obj.cells (zc n) 74)) (ball _ _)⟩
      · rw [Ix.cnt_nil]
        have := heap_alloc_new (wr.alloc (Obj.cells (zc n) 74)) (Obj.cells #[Value.int IntKind.i64 room, Value.int IntKind.i64 0, Value.slice (some ⟨wr.heap.size, 0, none⟩) n n] 33)
        simpa using this
      · refine plr_zc ?_
        have h3 := heap_alloc_new wr (Obj.cells (zc n) 74)
        exact row_on h3 (ball _ _)
/-- the highest bits, one after the other. -/
theorem top_step (x j : Nat) : x * 2 ^ (j + 1) / 18446744073709551616 = 2 * (x * 2 ^ j / 18446744073709551616) + x * 2 ^ j % 18446744073709551616 / 9223372036854775808 ∧ x * 2 ^ (j + 1) % 18446744073709551616 = x * 2 ^ j % 18446744073709551616 * 2 % 18446744073709551616 := by
  rw [Nat.pow_succ, ← Nat.mul_assoc]
  generalize x * 2 ^ j = y
  omega
set_option maxHeartbeats 1000000 in
set_option maxRecDepth 100000 in
theorem RHome_any {w : World} {X P n room : Nat} {T : Ix.Tab} (h : Rx w X P n room T) (k : Int) :
    Calls Try.prog 14 #[.pointer (some ⟨X, 0, none⟩), .int .u64 k] w fun e w' => e = .returned (.int .i64 (hm n k)) ∧ w' = w := by
  have hc := h.cells.2.2
  have hmost := h.most
  obtain ⟨b, hb⟩ := h.pow
  have h1 : 0 ≤ (k * 11400714819323198485) % 18446744073709551616 := Int.emod_nonneg _ (by decide)
  have h2 : (k * 11400714819323198485) % 18446744073709551616 < 18446744073709551616 := Int.emod_lt_of_pos _ (by decide)
  have e1 : IntKind.u64.wrap (k * 11400714819323198485) = (k * 11400714819323198485) % 18446744073709551616 := by simp [IntKind.wrap, IntKind.bits, IntKind.signed]
  have HM : hm n k = ((k * 11400714819323198485) % 18446744073709551616 * n / 18446744073709551616).toNat := rfl
  obtain ⟨x, hx⟩ := Int.eq_ofNat_of_zero_le h1
  rw [hx] at e1 HM h2
  have hlt : x < 18446744073709551616 := by omega
  have hy : x * n / 18446744073709551616 = hm n k := by
    rw [HM, ← Int.natCast_mul]; generalize x * n = m; omega
  have hy' : x * 2 ^ b / 18446744073709551616 = hm n k := by rw [← hb]; exact hy
  have HY := hid hy'
  have HB := hid hb
  have HLT := hid hlt
  have hb17 : b ≤ 17 := by
    rcases Nat.lt_or_ge 17 b with h3 | h3
    · have := Nat.pow_le_pow_right (n := 2) (by omega) h3; omega
    · exact h3
  clear h h1 h2 hx HM hy hy' hlt hb
  go_enter Try.func14, Try.ntmps14
  go_wp2_with fail
  go_loopw [5, 6, 7] (fun nv hv pv wr => ∃ j : Nat, j ≤ b ∧ nv = .int .u64 ((x * 2 ^ j % 18446744073709551616 : Nat) : Int) ∧ hv = .int .i64 ((x * 2 ^ j / 18446744073709551616 : Nat) : Int) ∧ pv = .int .i64 ((2 ^ (b - j) : Nat) : Int) ∧ wr = w) (fun _ _ pv _ => (intOf pv).toNat)
  case atStart =>
    refine ⟨0, Nat.zero_le _, ?_, ?_, ?_, rfl⟩
    · have := HLT.out; congr 1; omega
    · have := HLT.out; congr 1; omega
    · rw [Nat.sub_zero, ← HB.out]
  case round =>
    obtain ⟨j, hj, rfl, rfl, rfl, rfl⟩ := hrel
    by_cases hjb : j < b
    · obtain ⟨t1, t2⟩ := top_step x j
      have HT := hid (And.intro t1 t2)
      have hp : 2 ^ (b - j) = 2 * 2 ^ (b - (j + 1)) := by
        rw [show b - j = b - (j + 1) + 1 by omega, Nat.pow_succ]; omega
      have hpos : 0 < 2 ^ (b - (j + 1)) := Nat.two_pow_pos _
      have hhome : x * 2 ^ j / 18446744073709551616 < 2 ^ j := by
        have h3 := HLT.out
        rw [Nat.div_lt_iff_lt_mul (by decide), Nat.mul_comm (2 ^ j)]
        exact Nat.mul_lt_mul_of_pos_right h3 (Nat.two_pow_pos j)
      have hj17 : 2 ^ j ≤ 131072 := by have := Nat.pow_le_pow_right (n := 2) (by omega) (show j ≤ 17 by omega); omega
      have hpb : 2 ^ (b - (j + 1)) ≤ 131072 := by have := Nat.pow_le_pow_right (n := 2) (by omega) (show b - (j + 1) ≤ 17 by omega); omega
      have hr : x * 2 ^ j % 18446744073709551616 < 18446744073709551616 := Nat.mod_lt _ (by decide)
      obtain ⟨q, hq⟩ : ∃ q, x * 2 ^ j / 18446744073709551616 = q := ⟨_, rfl⟩
      obtain ⟨r, hr0⟩ : ∃ r, x * 2 ^ j % 18446744073709551616 = r := ⟨_, rfl⟩
      obtain ⟨q', hq'⟩ : ∃ q, x * 2 ^ (j + 1) / 18446744073709551616 = q := ⟨_, rfl⟩
      obtain ⟨r', hr'⟩ : ∃ r, x * 2 ^ (j + 1) % 18446744073709551616 = r := ⟨_, rfl⟩
      obtain ⟨p2, hp2⟩ : ∃ p, 2 ^ (b - (j + 1)) = p := ⟨_, rfl⟩
      rw [hq, hr0, hq'] at t1
      rw [hr0, hr'] at t2
      rw [hq] at hhome
      rw [hr0] at hr
      rw [hp2] at hp hpos hpb
      rw [hq, hr0, hp]
      have HN := hid (And.intro hq' (And.intro hr' hp2))
      have b1 : q < 131072 := by omega
      obtain ⟨z, hz0⟩ : ∃ z, r / 9223372036854775808 = z := ⟨_, rfl⟩
      have ez : IntKind.u64.wrap ((r : Int) / 9223372036854775808) = (z : Int) := by simp [IntKind.wrap, IntKind.bits, IntKind.signed]; omega
      have er : IntKind.u64.wrap ((r : Int) * 2) = (r' : Int) := by simp [IntKind.wrap, IntKind.bits, IntKind.signed]; omega
      have hz : z ≤ 1 := by omega
      have eq' : 2 * (q : Int) + (z : Int) = (q' : Int) := by omega
      have HJ := hid (show j + 1 ≤ b from hjb)
      have HQ := hid eq'
      have hq2 : q' < 262146 := by omega
      have ep : ((2 * p2 : Nat) : Int) = 2 * (p2 : Int) := by omega
      have e2p : 2 * (p2 : Int) / 2 = (p2 : Int) := by omega
      rw [ep]
      have HPP := hid (show p2 < 2 * p2 by omega)
      clear hj hjb hp hq hr0 hq' hr' hp2 hhome hj17 HT hb17 t1 t2 hz0 hr ep eq'
      go_wp2_with fail
      refine ⟨⟨j + 1, HJ.out, by rw [HN.out.2.1], by rw [HN.out.1, HQ.out], by rw [HN.out.2.2], trivial⟩, ?_⟩
      have := HPP.out
      simp only [intOf]; omega
    · have hb : j = b := by omega
      subst hb
      rw [Nat.sub_self, HY.out]
      clear hj hjb
      go_wp2_with fail
      go_ret
      exact ⟨rfl, rfl⟩
end Go.Proofs.Ythidnipmkffilaa
