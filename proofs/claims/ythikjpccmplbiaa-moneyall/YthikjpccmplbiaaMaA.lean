/-
  MoneyAll: a place; the box of four pairs of amounts.
-/
import Derived.Test.YthikjpccmplbiaaDmK
import Derived.Test.YthikjpccmplbiaaMonI
namespace Go.Proofs.Ythikjpccmplbiaa.Dm
open Go.RowKit Go.Deep BigM MonM TexM ParM
set_option linter.unusedVariables false
set_option linter.unusedSimpArgs false
set_option maxHeartbeats 8000000
set_option maxRecDepth 100000
attribute [local go_sem ↓] Go.wp_at_zero Go.wp_at_succ
theorem reg_cut {P : Program} {id : Nat} {ops : Array Oper} {b : Bool} {Q : Exit → Act → World → Prop} {a : Act} {w : World} {X : Type} (F : Act → X → Act) (T : X → World → Prop)
    (h1 : (Code.region id ops b).wp P (fun e a' w' => match e with | .normal => ∃ x, a' = F a x ∧ T x w' | _ => False) a w)
    (h2 : ∀ x w', T x w' → Q .normal (F a x) w') : (Code.region id ops b).wp P Q a w :=
  wp_mono h1 (fun e a' w' h => by
    cases e with
    | normal => obtain ⟨x, rfl, ht⟩ := h; exact h2 x w' ht
    | _ => exact h.elim)
/-- all blocks but some are as they were. -/
structure Kp (B : Nat → Prop) (w w' : World) : Prop where
  os : w'.os = w.os
  tape : w'.tape = w.tape
  output : w'.output = w.output
  size : w.heap.size ≤ w'.heap.size
  obj : ∀ b, b < w.heap.size → ¬ B b → w'.heap[b]? = w.heap[b]?
theorem Kp.row {B : Nat → Prop} {w w' : World} (h : Kp B w w') {g : Nat} {o : Obj} (e : w.heap[g]? = some o) (hB : ¬ B g) : w'.heap[g]? = some o := (h.obj g (row_lt e) hB).trans e
theorem setRow_kp (w : World) (g : Nat) (cs : Array Value) : Kp (fun b => b = g) w (w.setRow g cs) :=
  ⟨rfl, rfl, rfl, by simp [World.setRow], fun b _ hb => setRow_other w g b cs (fun e => hb e)⟩
def atN (x : Int) : Nat := (x % 4).toNat
theorem atN_lt (x : Int) : atN x < 4 := by unfold atN; omega
theorem at_any (x : Int) (w : World) : Calls Try.prog 5 #[.int .i64 x] w fun e w' => e = .returned (.int .i64 (atN x : Nat)) ∧ w' = w := by
  have ht : x.tmod 4 = if 0 ≤ x ∨ x % 4 = 0 then x % 4 else x % 4 - 4 := by
    rw [Int.tmod_eq_emod]
    by_cases h : 0 ≤ x ∨ (4 : Int) ∣ x
    · rw [if_pos h, if_pos (by omega)]; omega
    · rw [if_neg h, if_neg (by omega)]; rfl
  have hb : (atN x : Int) = x % 4 := by unfold atN; omega
  obtain ⟨t, hx⟩ : ∃ t, x.tmod 4 = t := ⟨_, rfl⟩
  rw [hx] at ht
  have w1 : IntKind.i64.wrap t = t := by rw [IntKind.wrap_i64]; split at ht <;> omega
  by_cases h : t < 0
  · have c0 : decide (t < 0) = true := decide_eq_true h
    have w2 : IntKind.i64.wrap (t + 4) = (atN x : Int) := by rw [IntKind.wrap_i64]; split at ht <;> omega
    obtain ⟨n, hn⟩ : ∃ n, atN x = n := ⟨_, rfl⟩
    rw [hn] at w2 ⊢
    clear ht hb h hn
    go_enter Try.func5, Try.ntmps5
    go_wp2
    go_ret
    exact ⟨rfl, rfl⟩
  · have c0 : decide (t < 0) = false := decide_eq_false h
    have w2 : t = (atN x : Int) := by split at ht <;> omega
    obtain ⟨n, hn⟩ : ∃ n, atN x = n := ⟨_, rfl⟩
    rw [hn] at w2 ⊢
    have W2 := hid w2
    clear ht hb h hn w2
    go_enter Try.func5, Try.ntmps5
    go_wp2
    rw [W2.out]
    go_ret
    exact ⟨rfl, rfl⟩
/-- four amounts, by the program and by the document, in the box B. -/
def Mw (W : World) (B : Nat) (m : Nat → Int) : Prop := ∃ cur : Array Value, W.heap[B]? = some (.cells cur 34 (0, 0)) ∧ cur.size = 16 ∧ ∀ i, i < 4 → Amt (m i) ∧ cur[i * 2]? = some (.int .u64 (hiW (m i))) ∧ cur[i * 2 + 1]? = some (.int .u64 (loW (m i))) ∧
  ∃ a n c, cur[8 + i * 2]? = some (.bool (decide (m i < 0))) ∧ cur[8 + i * 2 + 1]? = some (.slice a n c) ∧ Bn W (.slice a n c) (absI (m i))
theorem Mw.on {W W' : World} {B : Nat} {m : Nat → Int} (h : Mw W B m) (hb : Below W.heap.size W W') : Mw W' B m := by
  obtain ⟨cur, h1, h2, h3⟩ := h
  refine ⟨cur, row_on h1 hb, h2, fun i hi => ?_⟩
  obtain ⟨a1, a2, a3, a, n, c, a4, a5, a6⟩ := h3 i hi
  exact ⟨a1, a2, a3, a, n, c, a4, a5, a6.to hb⟩
/-- what the box holds at a place. -/
theorem Mw.at {W : World} {B : Nat} {m : Nat → Int} (h : Mw W B m) (i : Nat) (hi : i < 4) : Amt (m i) ∧ W.cell? ⟨B, i * 2, none⟩ = some (.int .u64 (hiW (m i))) ∧ W.cell? ⟨B, i * 2 + 1, none⟩ = some (.int .u64 (loW (m i))) ∧
    ∃ a n c, W.cell? ⟨B, 8 + i * 2, none⟩ = some (.bool (decide (m i < 0))) ∧ W.cell? ⟨B, 8 + i * 2 + 1, none⟩ = some (.slice a n c) ∧ Am W (.agg #[.bool (decide (m i < 0)), .slice a n c]) (m i) := by
  obtain ⟨cur, h1, h2, h3⟩ := h
  obtain ⟨a1, a2, a3, a, n, c, a4, a5, a6⟩ := h3 i hi
  exact ⟨a1, by rw [row_cell h1]; exact a2, by rw [row_cell h1]; exact a3, a, n, c, by rw [row_cell h1]; exact a4, by rw [row_cell h1]; exact a5, ⟨_, rfl, a6⟩⟩
theorem Mw.frz {W : World} {B : Nat} {m : Nat → Int} (h : Mw W B m) (j : Nat) : W.frozen? ⟨B, j, none⟩ = false := by
  obtain ⟨cur, h1, _⟩ := h
  exact row_frz h1 j
theorem Mw.lt {W : World} {B : Nat} {m : Nat → Int} (h : Mw W B m) : B < W.heap.size := by
  obtain ⟨cur, h1, _⟩ := h
  exact row_lt h1
end Go.Proofs.Ythikjpccmplbiaa.Dm
