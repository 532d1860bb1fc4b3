/-
  A set of ticks, and the words of its three levels: plain mathematics.
-/
import Derived.Test.YtcbfgodknonefaaDoorBmM
namespace Go.Proofs.YtcbfgodknonefaaDoor.Bt
set_option linter.unusedVariables false

/-- k is the lowest bit of x; the highest one. -/
def Lsb (x k : Nat) : Prop := x.testBit k = true ∧ ∀ j, j < k → x.testBit j = false
def Msb (x k : Nat) : Prop := x.testBit k = true ∧ ∀ j, k < j → x.testBit j = false
theorem least_bit (f : Nat → Bool) : ∀ k, f k = true → ∃ j, f j = true ∧ ∀ i, i < j → f i = false := by
  intro k
  induction k using Nat.strongRecOn with
  | _ k ih =>
    intro h
    by_cases hx : ∃ i, i < k ∧ f i = true
    · obtain ⟨i, hi, hf⟩ := hx
      exact ih i hi hf
    · refine ⟨k, h, fun i hi => ?_⟩
      cases hc : f i with
      | false => rfl
      | true => exact absurd ⟨i, hi, hc⟩ hx
theorem lsb_ex {x : Nat} (h : x ≠ 0) : ∃ k, Lsb x k := by
  obtain ⟨i, hi⟩ := Nat.exists_testBit_of_ne_zero h
  obtain ⟨j, h1, h2⟩ := least_bit x.testBit i hi
  exact ⟨j, h1, h2⟩
theorem lsb_one {x j k : Nat} (h1 : Lsb x k) (h2 : Lsb x j) : k = j := by
  rcases Nat.lt_trichotomy k j with h | h | h
  · have := h2.2 k h; rw [h1.1] at this; cases this
  · exact h
  · have := h1.2 j h; rw [h2.1] at this; cases this
theorem bit_small {x k n : Nat} (hx : x < 2 ^ n) (h : x.testBit k = true) : k < n := by
  by_cases hk : k < n
  · exact hk
  · have : 2 ^ n ≤ 2 ^ k := Nat.pow_le_pow_right (by decide) (by omega)
    rw [Nat.testBit_lt_two_pow (by omega)] at h; cases h
theorem pred_bit {x k : Nat} (h : Lsb x k) (i : Nat) : (x - 1).testBit i = if i < k then true else if i = k then false else x.testBit i := by
  obtain ⟨h1, h2⟩ := h
  obtain ⟨m, hm⟩ : ∃ m, x / 2 ^ (k + 1) = m := ⟨_, rfl⟩
  have hlow : x % 2 ^ (k + 1) = 2 ^ k := by
    refine eq_of_bits (k + 1) (Nat.mod_lt _ (Nat.two_pow_pos _)) (Nat.pow_lt_pow_right (by decide) (by omega)) (fun j hj => ?_)
    rw [Nat.testBit_mod_two_pow, Nat.testBit_two_pow]
    by_cases e : k = j
    · subst e; simp [h1, hj]
    · have := h2 j (by omega)
      simp [this, e]
  have hp : 0 < 2 ^ k := Nat.two_pow_pos k
  have hx : x = 2 ^ (k + 1) * m + 2 ^ k := by
    have := Nat.div_add_mod x (2 ^ (k + 1)); rw [hm, hlow] at this; exact this.symm
  have hx1 : x - 1 = 2 ^ (k + 1) * m + (2 ^ k - 1) := by omega
  have t1 := Nat.testBit_two_pow_mul_add m (i := k + 1) (b := 2 ^ k - 1) (by rw [Nat.pow_succ]; omega) i
  have t2 := Nat.testBit_two_pow_mul_add m (i := k + 1) (b := 2 ^ k) (by rw [Nat.pow_succ]; omega) i
  rw [← hx1] at t1
  rw [← hx] at t2
  rw [t1, t2, Nat.testBit_two_pow_sub_one, Nat.testBit_two_pow]
  by_cases a : i < k
  · simp [a, Nat.lt_succ_of_lt a]
  · by_cases b : i = k
    · subst b; simp
    · have : ¬ i < k + 1 := by omega
      simp [a, b, this]
theorem and_pred {x k : Nat} (h : Lsb x k) (i : Nat) : (x &&& (x - 1)).testBit i = (x.testBit i && decide (i ≠ k)) := by
  rw [Nat.testBit_and, pred_bit h]
  by_cases a : i < k
  · simp [a, h.2 i a]
  · by_cases b : i = k
    · subst b; simp
    · simp [a, b]
theorem and_neg {x k : Nat} (hx : x < 2 ^ 64) (h : Lsb x k) : x &&& (2 ^ 64 - x) = 2 ^ k := by
  have hk := bit_small hx h.1
  have h0 : x ≠ 0 := by rintro rfl; have := h.1; simp at this
  have e : 2 ^ 64 - x = 2 ^ 64 - ((x - 1) + 1) := by omega
  refine eq_of_bits 64 (Nat.lt_of_le_of_lt Nat.and_le_left hx) (Nat.pow_lt_pow_right (by decide) hk) (fun i hi => ?_)
  rw [Nat.testBit_and, e, Nat.testBit_two_pow_sub_succ (by omega), pred_bit h, Nat.testBit_two_pow]
  by_cases a : i < k
  · have : ¬ k = i := by omega
    simp [a, h.2 i a, this]
  · by_cases b : i = k
    · subst b; simp [hi, h.1]
    · have : ¬ k = i := by omega
      simp [a, b, this]
      intro p _
      exact p
theorem msb_len : ∀ x : Nat, x ≠ 0 → x < 2 ^ 64 → 1 ≤ Lib.bitLen x ∧ Msb x (Lib.bitLen x - 1) := by
  intro x
  induction x using Nat.strongRecOn with
  | _ x ih =>
    intro h0 hx
    rw [Lib.bitLen_half x h0 hx]
    refine ⟨by omega, ?_⟩
    rw [Nat.add_sub_cancel_left]
    by_cases h1 : x = 1
    · subst h1
      rw [show Lib.bitLen (1 / 2) = 0 from by decide]
      refine ⟨by decide, fun j hj => ?_⟩
      rw [Nat.testBit_lt_two_pow]
      exact Nat.one_lt_two_pow (by omega)
    · obtain ⟨a, b, c⟩ := ih (x / 2) (by omega) (by omega) (by omega)
      obtain ⟨l, hl⟩ : ∃ l, Lib.bitLen (x / 2) = l + 1 := ⟨Lib.bitLen (x / 2) - 1, by omega⟩
      rw [hl, Nat.add_sub_cancel] at b c
      rw [hl]
      refine ⟨by rw [Nat.testBit_succ]; exact b, fun j hj => ?_⟩
      obtain ⟨i, rfl⟩ : ∃ i, j = i + 1 := ⟨j - 1, by omega⟩
      rw [Nat.testBit_succ]; exact c i (by omega)
theorem msb_one {x j k : Nat} (h1 : Msb x k) (h2 : Msb x j) : k = j := by
  rcases Nat.lt_trichotomy k j with h | h | h
  · have := h1.2 j h; rw [h2.1] at this; cases this
  · exact h
  · have := h2.2 k h; rw [h1.1] at this; cases this

/-- the words of a set of ticks. -/
def lo (S : Nat → Bool) (i : Nat) : Nat := wdn (fun b => S (64 * i + b)) 64
def mi (S : Nat → Bool) (i : Nat) : Nat := wdn (fun b => lo S (64 * i + b) != 0) 64
def tp (S : Nat → Bool) : Nat := wdn (fun b => mi S b != 0) 64
theorem lo_lt (S : Nat → Bool) (i : Nat) : lo S i < 18446744073709551616 := wdn_lt _ 64
theorem mi_lt (S : Nat → Bool) (i : Nat) : mi S i < 18446744073709551616 := wdn_lt _ 64
theorem tp_lt (S : Nat → Bool) : tp S < 18446744073709551616 := wdn_lt _ 64
theorem lo_bit (S : Nat → Bool) (i b : Nat) (hb : b < 64) : (lo S i).testBit b = S (64 * i + b) := by
  unfold lo; rw [wdn_bit]; simp [hb]
theorem mi_bit (S : Nat → Bool) (i b : Nat) (hb : b < 64) : (mi S i).testBit b = (lo S (64 * i + b) != 0) := by
  unfold mi; rw [wdn_bit]; simp [hb]
theorem tp_bit (S : Nat → Bool) (b : Nat) (hb : b < 64) : (tp S).testBit b = (mi S b != 0) := by
  unfold tp; rw [wdn_bit]; simp [hb]
/-- a tick that is in makes its words not 0. -/
theorem lo_ne (S : Nat → Bool) (t : Nat) (h : S t = true) : lo S (t / 64) ≠ 0 := by
  intro e
  have := lo_bit S (t / 64) (t % 64) (by omega)
  rw [e, Nat.zero_testBit, show 64 * (t / 64) + t % 64 = t by omega, h] at this
  cases this
theorem mi_ne (S : Nat → Bool) (w : Nat) (h : lo S w ≠ 0) : mi S (w / 64) ≠ 0 := by
  intro e
  have := mi_bit S (w / 64) (w % 64) (by omega)
  rw [e, Nat.zero_testBit, show 64 * (w / 64) + w % 64 = w by omega] at this
  simp at this
  exact h this
theorem tp_ne (S : Nat → Bool) (g : Nat) (hg : g < 64) (h : mi S g ≠ 0) : (tp S).testBit g = true := by
  rw [tp_bit S g hg]; simp [h]
theorem lo_zero (S : Nat → Bool) (i : Nat) : lo S i = 0 ↔ ∀ b, b < 64 → S (64 * i + b) = false := wdn_zero _ _
theorem mi_zero (S : Nat → Bool) (i : Nat) : mi S i = 0 ↔ ∀ b, b < 64 → lo S (64 * i + b) = 0 := by
  unfold mi; rw [wdn_zero]
  constructor
  · intro h b hb; have := h b hb; simpa using this
  · intro h b hb; have := h b hb; simpa using this
theorem tp_zero (S : Nat → Bool) : tp S = 0 ↔ ∀ b, b < 64 → mi S b = 0 := by
  unfold tp; rw [wdn_zero]
  constructor
  · intro h b hb; have := h b hb; simpa using this
  · intro h b hb; have := h b hb; simpa using this
theorem lo_ext {S T : Nat → Bool} (i : Nat) (h : ∀ b, b < 64 → S (64 * i + b) = T (64 * i + b)) : lo S i = lo T i := wdn_ext h
theorem mi_ext {S T : Nat → Bool} (i : Nat) (h : ∀ b, b < 64 → (lo S (64 * i + b) = 0 ↔ lo T (64 * i + b) = 0)) : mi S i = mi T i := by
  refine wdn_ext (fun b hb => ?_)
  have := h b hb
  by_cases e : lo S (64 * i + b) = 0
  · simp [e, this.1 e]
  · have e2 : ¬ lo T (64 * i + b) = 0 := fun x => e (this.2 x)
    show (lo S (64 * i + b) != 0) = (lo T (64 * i + b) != 0)
    rw [bne_iff_ne.2 e, bne_iff_ne.2 e2]
theorem tp_ext {S T : Nat → Bool} (h : ∀ b, b < 64 → (mi S b = 0 ↔ mi T b = 0)) : tp S = tp T := by
  refine wdn_ext (fun b hb => ?_)
  have := h b hb
  by_cases e : mi S b = 0
  · simp [e, this.1 e]
  · have e2 : ¬ mi T b = 0 := fun x => e (this.2 x)
    show (mi S b != 0) = (mi T b != 0)
    rw [bne_iff_ne.2 e, bne_iff_ne.2 e2]

/-- a tick is put in; taken out. -/
def ins (S : Nat → Bool) (t : Nat) : Nat → Bool := fun x => S x || decide (x = t)
def del (S : Nat → Bool) (t : Nat) : Nat → Bool := fun x => S x && decide (x ≠ t)
theorem or_lt {a b : Nat} (ha : a < 18446744073709551616) (hb : b < 64) : a ||| 2 ^ b < 2 ^ 64 :=
  Nat.or_lt_two_pow ha (Nat.pow_lt_pow_right (by decide) hb)
theorem lo_ins (S : Nat → Bool) (t : Nat) : lo (ins S t) (t / 64) = lo S (t / 64) ||| 2 ^ (t % 64) := by
  refine eq_of_bits 64 (lo_lt _ _) (or_lt (lo_lt _ _) (by omega)) (fun i hi => ?_)
  rw [lo_bit _ _ _ hi, Nat.testBit_or, lo_bit _ _ _ hi, Nat.testBit_two_pow]
  unfold ins
  have : (64 * (t / 64) + i = t) ↔ (t % 64 = i) := by omega
  simp [this]
theorem lo_ins_ne (S : Nat → Bool) (t i : Nat) (h : i ≠ t / 64) : lo (ins S t) i = lo S i := by
  refine lo_ext i (fun b hb => ?_)
  unfold ins
  have : ¬ 64 * i + b = t := by omega
  simp [this]
theorem mi_ins (S : Nat → Bool) (t : Nat) : mi (ins S t) (t / 64 / 64) = mi S (t / 64 / 64) ||| 2 ^ (t / 64 % 64) := by
  refine eq_of_bits 64 (mi_lt _ _) (or_lt (mi_lt _ _) (by omega)) (fun i hi => ?_)
  rw [mi_bit _ _ _ hi, Nat.testBit_or, mi_bit _ _ _ hi, Nat.testBit_two_pow]
  by_cases e : t / 64 % 64 = i
  · have e2 : 64 * (t / 64 / 64) + i = t / 64 := by omega
    have : lo (ins S t) (t / 64) ≠ 0 := lo_ne _ t (by unfold ins; simp)
    simp [e2, e, this]
  · rw [lo_ins_ne S t _ (by omega)]
    simp [e]
theorem mi_ins_ne (S : Nat → Bool) (t i : Nat) (h : i ≠ t / 64 / 64) : mi (ins S t) i = mi S i := by
  refine mi_ext i (fun b hb => ?_)
  rw [lo_ins_ne S t _ (by omega)]
theorem tp_ins (S : Nat → Bool) (t : Nat) (ht : t < 262144) : tp (ins S t) = tp S ||| 2 ^ (t / 64 / 64) := by
  refine eq_of_bits 64 (tp_lt _) (or_lt (tp_lt _) (by omega)) (fun i hi => ?_)
  rw [tp_bit _ _ hi, Nat.testBit_or, tp_bit _ _ hi, Nat.testBit_two_pow]
  by_cases e : t / 64 / 64 = i
  · have : lo (ins S t) (t / 64) ≠ 0 := lo_ne _ t (by unfold ins; simp)
    have := mi_ne _ _ this
    rw [e] at this
    simp [e, this]
  · rw [mi_ins_ne S t i (by omega)]
    simp [e]
/-- all bits but one. -/
def nb (b : Nat) : Nat := 18446744073709551615 - 2 ^ b
theorem nb_bit (b i : Nat) (hb : b < 64) (hi : i < 64) : (nb b).testBit i = decide (b ≠ i) := by
  have e : nb b = 2 ^ 64 - (2 ^ b + 1) := by unfold nb; omega
  rw [e, Nat.testBit_two_pow_sub_succ (Nat.pow_lt_pow_right (by decide) hb), Nat.testBit_two_pow]
  simp [hi]
theorem and_lt {a : Nat} (b : Nat) (ha : a < 18446744073709551616) : a &&& b < 2 ^ 64 := Nat.lt_of_le_of_lt Nat.and_le_left ha
theorem lo_del (S : Nat → Bool) (t : Nat) : lo (del S t) (t / 64) = lo S (t / 64) &&& nb (t % 64) := by
  refine eq_of_bits 64 (lo_lt _ _) (and_lt _ (lo_lt _ _)) (fun i hi => ?_)
  rw [lo_bit _ _ _ hi, Nat.testBit_and, lo_bit _ _ _ hi, nb_bit _ _ (by omega) hi]
  unfold del
  have : (64 * (t / 64) + i = t) ↔ (t % 64 = i) := by omega
  simp [this]
theorem lo_del_ne (S : Nat → Bool) (t i : Nat) (h : i ≠ t / 64) : lo (del S t) i = lo S i := by
  refine lo_ext i (fun b hb => ?_)
  unfold del
  have : ¬ 64 * i + b = t := by omega
  simp [this]
theorem mi_del (S : Nat → Bool) (t : Nat) (h : lo (del S t) (t / 64) = 0) : mi (del S t) (t / 64 / 64) = mi S (t / 64 / 64) &&& nb (t / 64 % 64) := by
  refine eq_of_bits 64 (mi_lt _ _) (and_lt _ (mi_lt _ _)) (fun i hi => ?_)
  rw [mi_bit _ _ _ hi, Nat.testBit_and, mi_bit _ _ _ hi, nb_bit _ _ (by omega) hi]
  by_cases e : t / 64 % 64 = i
  · have e2 : 64 * (t / 64 / 64) + i = t / 64 := by omega
    simp [e2, e, h]
  · rw [lo_del_ne S t _ (by omega)]
    simp [e]
theorem mi_del_keep (S : Nat → Bool) (t : Nat) (hS : S t = true) (h : lo (del S t) (t / 64) ≠ 0) : mi (del S t) (t / 64 / 64) = mi S (t / 64 / 64) := by
  refine mi_ext _ (fun b hb => ?_)
  by_cases e : 64 * (t / 64 / 64) + b = t / 64
  · rw [e]
    have := lo_ne S t hS
    simp [h, this]
  · rw [lo_del_ne S t _ e]
theorem mi_del_ne (S : Nat → Bool) (t i : Nat) (h : i ≠ t / 64 / 64) : mi (del S t) i = mi S i := by
  refine mi_ext i (fun b hb => ?_)
  rw [lo_del_ne S t _ (by omega)]
theorem tp_del (S : Nat → Bool) (t : Nat) (ht : t < 262144) (h : mi (del S t) (t / 64 / 64) = 0) : tp (del S t) = tp S &&& nb (t / 64 / 64) := by
  refine eq_of_bits 64 (tp_lt _) (and_lt _ (tp_lt _)) (fun i hi => ?_)
  rw [tp_bit _ _ hi, Nat.testBit_and, tp_bit _ _ hi, nb_bit _ _ (by omega) hi]
  by_cases e : t / 64 / 64 = i
  · rw [e] at h; simp [e, h]
  · rw [mi_del_ne S t i (by omega)]
    simp [e]
theorem tp_del_keep (S : Nat → Bool) (t : Nat) (hS : S t = true) (h : mi (del S t) (t / 64 / 64) ≠ 0) : tp (del S t) = tp S := by
  refine tp_ext (fun b hb => ?_)
  by_cases e : b = t / 64 / 64
  · subst e
    have := mi_ne S _ (lo_ne S t hS)
    simp [h, this]
  · rw [mi_del_ne S t _ e]

/-- the map's cells. -/
def cellv (S : Nat → Bool) (i : Nat) : Nat := if i = 0 then tp S else if i < 65 then mi S (i - 1) else lo S (i - 65)
theorem cellv_lt (S : Nat → Bool) (i : Nat) : cellv S i < 18446744073709551616 := by
  unfold cellv; split
  · exact tp_lt _
  · split
    · exact mi_lt _ _
    · exact lo_lt _ _
/-- a number is a tick of the set. -/
def hasI (S : Nat → Bool) (t : Int) : Bool := decide (0 ≤ t) && decide (t < 262144) && S t.toNat
end Go.Proofs.YtcbfgodknonefaaDoor.Bt
