/-
  Numerals, plain: what a text of decimal digits is worth; a number's one text; the texts that are a number's (program's and document's reading).
-/
import Derived.Test.YtolabllgnfpfaaaDoorChecked
import Derived.Lib.ParseIntBCases
import Derived.Lib.ItoaNum
import Derived.Lib.ItoaLen
namespace Go.Proofs.YtolabllgnfpfaaaDoor
open Go.Lib
set_option linter.unusedVariables false

def Dig (c : UInt8) : Prop := 48 ≤ c.toNat ∧ c.toNat ≤ 57
instance (c : UInt8) : Decidable (Dig c) := by unfold Dig; exact inferInstance
/-- What digits are worth behind a number. -/
def val (acc : Nat) (l : List UInt8) : Nat := l.foldl (fun a c => a * 10 + (c.toNat - 48)) acc
theorem val_nil (acc : Nat) : val acc [] = acc := by simp only [val, List.foldl_nil]
theorem val_cons (acc : Nat) (c : UInt8) (r : List UInt8) : val acc (c :: r) = val (acc * 10 + (c.toNat - 48)) r := by simp only [val, List.foldl_cons]

theorem val_ge (l : List UInt8) : ∀ (acc : Nat), acc ≤ val acc l := by
  induction l with
  | nil => intro acc; rw [val_nil]; exact Nat.le_refl _
  | cons c r ih => intro acc; rw [val_cons]; exact Nat.le_trans (by omega) (ih _)
theorem val_snoc : ∀ (l : List UInt8) (acc : Nat) (c : UInt8), val acc (l ++ [c]) = val acc l * 10 + (c.toNat - 48)
  | [], acc, c => by simp only [List.nil_append, val_cons, val_nil]
  | a :: r, acc, c => by simp only [List.cons_append, val_cons]; exact val_snoc r _ c

theorem parse_of : ∀ (l : List UInt8) (acc : Nat), (∀ c ∈ l, Dig c) → val acc l ≤ 18446744073709551615 → parseUintM 18446744073709551615 acc l = .ok (val acc l)
  | [], acc, _, _ => rfl
  | c :: r, acc, hd, hv => by
    have h1 := hd c (List.mem_cons_self ..)
    simp only [val_cons] at hv ⊢
    have h2 := val_ge r (acc * 10 + (c.toNat - 48))
    simp only [parseUintM]
    rw [if_pos (show 48 ≤ c.toNat ∧ c.toNat ≤ 57 from h1), if_neg (by omega), if_neg (by omega)]
    exact parse_of r _ (fun x hx => hd x (List.mem_cons_of_mem _ hx)) hv
theorem of_parse : ∀ (l : List UInt8) (acc k : Nat), acc ≤ 18446744073709551615 → parseUintM 18446744073709551615 acc l = .ok k → (∀ c ∈ l, Dig c) ∧ k = val acc l ∧ k ≤ 18446744073709551615
  | [], acc, k, ha, h => by
    simp only [parseUintM] at h
    obtain rfl : acc = k := by injection h
    exact ⟨fun _ h => by simp at h, rfl, ha⟩
  | c :: r, acc, k, ha, h => by
    simp only [parseUintM] at h
    split at h
    · rename_i h1
      split at h
      · cases h
      · split at h
        · cases h
        · rename_i h2 h3
          obtain ⟨a, b, e⟩ := of_parse r _ k (by omega) h
          exact ⟨fun x hx => by rcases List.mem_cons.1 hx with rfl | hx; exact h1; exact a x hx, b, e⟩
    · cases h

theorem dig_of (d : Nat) (h : d < 10) : Dig (UInt8.ofNat (48 + d)) ∧ (UInt8.ofNat (48 + d)).toNat - 48 = d := by
  have e : (UInt8.ofNat (48 + d)).toNat = 48 + d := by simp; omega
  unfold Dig; rw [e]; omega
theorem of_dig (c : UInt8) (h : Dig c) : UInt8.ofNat (48 + (c.toNat - 48)) = c := by
  obtain ⟨h1, h2⟩ := h
  apply UInt8.toNat_inj.1
  simp; omega

theorem dec_dig (n : Nat) : ∀ c ∈ decDigits n, Dig c := by
  induction n using Nat.strongRecOn with
  | _ n ih =>
    by_cases h : n < 10
    · rw [decDigits_one h]; intro c hc; obtain rfl := List.mem_singleton.1 hc; exact (dig_of n h).1
    · rw [decDigits, dif_neg h]; intro c hc
      rcases List.mem_append.1 hc with hc | hc
      · exact ih (n / 10) (by omega) c hc
      · obtain rfl := List.mem_singleton.1 hc; exact (dig_of (n % 10) (by omega)).1
theorem val_dec (n : Nat) : val 0 (decDigits n) = n := by
  induction n using Nat.strongRecOn with
  | _ n ih =>
    by_cases h : n < 10
    · rw [decDigits_one h]; simp only [val_cons, val_nil]; rw [(dig_of n h).2]; omega
    · rw [decDigits, dif_neg h, val_snoc, ih (n / 10) (by omega), (dig_of (n % 10) (by omega)).2]; omega
theorem dec_ne (n : Nat) : decDigits n ≠ [] := by
  intro h; have := decDigits_length n; rw [h] at this; have := nDigits_pos n; simp at *; omega
theorem dec_len (n : Nat) (h : n < 18446744073709551616) : 1 ≤ (decDigits n).length ∧ (decDigits n).length ≤ 20 := by
  rw [decDigits_length]; exact ⟨nDigits_pos n, nDigits_le20 n h⟩
theorem head_append (l m : List UInt8) (h : l ≠ []) : (l ++ m).head? = l.head? := by cases l <;> simp_all
theorem dec_head (n : Nat) : (decDigits n).head? = some 48 → n = 0 := by
  induction n using Nat.strongRecOn with
  | _ n ih =>
    by_cases h : n < 10
    · rw [decDigits_one h]; intro e
      have e1 : UInt8.ofNat (48 + n) = 48 := by simpa using e
      have := (dig_of n h).2; rw [e1] at this; simp at this; omega
    · rw [decDigits, dif_neg h, head_append _ _ (dec_ne _)]; intro e
      have := ih (n / 10) (by omega) e; omega
theorem val_pos : ∀ (l : List UInt8), l ≠ [] → (∀ c ∈ l, Dig c) → l.head? ≠ some 48 → 0 < val 0 l
  | [], h, _, _ => absurd rfl h
  | c :: r, _, hd, hh => by
    have h1 := hd c (List.mem_cons_self ..)
    have h2 : c ≠ 48 := by simpa using hh
    have h3 : c.toNat ≠ 48 := fun e => h2 (UInt8.toNat_inj.1 (by simpa using e))
    have h4 := val_ge r (0 * 10 + (c.toNat - 48))
    simp only [val_cons]; unfold Dig at h1; omega
theorem snoc_of (l : List UInt8) (h : l ≠ []) : ∃ m c, l = m ++ [c] := ⟨l.dropLast, l.getLast h, (List.dropLast_concat_getLast h).symm⟩
theorem dec_val_aux : ∀ (n : Nat) (l : List UInt8), l.length = n → l ≠ [] → (∀ c ∈ l, Dig c) → (l.length = 1 ∨ l.head? ≠ some 48) → decDigits (val 0 l) = l := by
  intro n
  induction n with
  | zero => intro l hl hn _ _; exact absurd (List.length_eq_zero_iff.1 hl) hn
  | succ n ih =>
    intro l hl hn hd hh
    obtain ⟨m, c, rfl⟩ := snoc_of l hn
    have hc := hd c (by simp)
    have hlm : m.length = n := by simpa using hl
    rw [val_snoc]
    have hc' := hc
    unfold Dig at hc'
    by_cases hm : m = []
    · subst hm
      simp only [val_nil, List.nil_append, Nat.zero_mul, Nat.zero_add]
      rw [decDigits_one (by omega), of_dig c hc]
    · have hml : 1 ≤ m.length := by cases m; exact absurd rfl hm; simp
      have hh' : m.head? ≠ some 48 := by
        rcases hh with hh | hh
        · simp at hh; exact absurd hh hm
        · rwa [head_append _ _ hm] at hh
      have hdm : ∀ c ∈ m, Dig c := fun x hx => hd x (List.mem_append_left _ hx)
      have hp := val_pos m hm hdm hh'
      rw [decDigits, dif_neg (by omega), show (val 0 m * 10 + (c.toNat - 48)) / 10 = val 0 m by omega, show (val 0 m * 10 + (c.toNat - 48)) % 10 = c.toNat - 48 by omega, of_dig c hc, ih m hlm hm hdm (Or.inr hh')]
theorem dec_val (l : List UInt8) (hn : l ≠ []) (hd : ∀ c ∈ l, Dig c) (hh : l.length = 1 ∨ l.head? ≠ some 48) : decDigits (val 0 l) = l := dec_val_aux l.length l rfl hn hd hh

/-- The number of which a text is the one form. -/
def num (l : List UInt8) : Option Nat :=
  match parseUintB 64 l with
  | .ok k => if decDigits k = l then some k else none
  | _ => none
theorem pB (l : List UInt8) (h : l ≠ []) : parseUintB 64 l = parseUintM 18446744073709551615 0 l := by
  unfold parseUintB; rw [if_neg h]
theorem parse_dec (n : Nat) (h : n < 18446744073709551616) : parseUintB 64 (decDigits n) = .ok n := by
  rw [pB _ (dec_ne n), parse_of _ _ (dec_dig n) (by rw [val_dec]; omega), val_dec]
theorem num_dec (n : Nat) (h : n < 18446744073709551616) : num (decDigits n) = some n := by
  unfold num; rw [parse_dec n h]; simp
theorem num_some (l : List UInt8) (k : Nat) (h : num l = some k) : decDigits k = l ∧ k < 18446744073709551616 := by
  unfold num at h
  split at h
  · rename_i k' hk
    split at h
    · rename_i e
      obtain rfl : k' = k := by simpa using h
      refine ⟨e, ?_⟩
      have hl : l ≠ [] := by rw [← e]; exact dec_ne _
      rw [pB l hl] at hk
      have := (of_parse l 0 k' (by omega) hk).2.2; omega
    · cases h
  · cases h
theorem num_iff (l : List UInt8) (k : Nat) (hk : k < 18446744073709551616) : num l = some k ↔ decDigits k = l :=
  ⟨fun h => (num_some l k h).1, fun h => by rw [← h]; exact num_dec k hk⟩

/-- The document's reading. -/
def natA : Nat → List UInt8 → Option Nat
  | acc, [] => some acc
  | acc, c :: r => if ¬ Dig c then none else if (18446744073709551615 - (c.toNat - 48)) / 10 < acc then none else natA (acc * 10 + (c.toNat - 48)) r
def nat? (l : List UInt8) : Option Nat :=
  if l.length < 1 ∨ 20 < l.length ∨ (1 < l.length ∧ l.head? = some 48) then none else natA 0 l
theorem natA_of : ∀ (l : List UInt8) (acc : Nat), (∀ c ∈ l, Dig c) → val acc l ≤ 18446744073709551615 → natA acc l = some (val acc l)
  | [], acc, _, _ => rfl
  | c :: r, acc, hd, hv => by
    have h1 := hd c (List.mem_cons_self ..)
    simp only [val_cons] at hv ⊢
    have h2 := val_ge r (acc * 10 + (c.toNat - 48))
    simp only [natA]
    rw [if_neg (by simpa using h1), if_neg (by unfold Dig at h1; omega)]
    exact natA_of r _ (fun x hx => hd x (List.mem_cons_of_mem _ hx)) hv
theorem of_natA : ∀ (l : List UInt8) (acc k : Nat), acc ≤ 18446744073709551615 → natA acc l = some k → (∀ c ∈ l, Dig c) ∧ k = val acc l ∧ k ≤ 18446744073709551615
  | [], acc, k, ha, h => by
    simp only [natA] at h
    obtain rfl : acc = k := by simpa using h
    exact ⟨fun _ h => by simp at h, rfl, ha⟩
  | c :: r, acc, k, ha, h => by
    simp only [natA] at h
    split at h
    · cases h
    · rename_i h1
      split at h
      · cases h
      · rename_i h2
        have h1' : Dig c := by simpa using h1
        obtain ⟨a, b, e⟩ := of_natA r _ k (by unfold Dig at h1'; omega) h
        exact ⟨fun x hx => by rcases List.mem_cons.1 hx with rfl | hx; exact h1'; exact a x hx, b, e⟩
theorem nat_num (l : List UInt8) : nat? l = num l := by
  cases h : num l with
  | some k =>
    obtain ⟨e, hk⟩ := num_some l k h
    subst e
    have hl := dec_len k hk
    unfold nat?
    rw [if_neg, natA_of _ _ (dec_dig k) (by rw [val_dec]; omega), val_dec]
    rintro (h1 | h1 | ⟨h1, h2⟩)
    · omega
    · omega
    · have := dec_head k h2; subst this; rw [decDigits_one (by omega)] at h1; simp at h1
  | none =>
    unfold nat?
    split
    · rfl
    · rename_i hc
      cases hA : natA 0 l with
      | none => rfl
      | some k =>
        exfalso
        obtain ⟨hd, e, hk⟩ := of_natA l 0 k (by omega) hA
        have hl : l ≠ [] := by intro h0; subst h0; simp at hc
        have hv := dec_val l hl hd (by
          by_cases h1 : l.length = 1
          · exact Or.inl h1
          · right; intro h2; apply hc; right; right
            have : 1 ≤ l.length := by cases l; exact absurd rfl hl; simp
            exact ⟨by omega, h2⟩)
        rw [← e] at hv
        rw [(num_iff l k (by omega)).2 hv] at h
        cases h
end Go.Proofs.YtolabllgnfpfaaaDoor
