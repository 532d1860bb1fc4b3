/-
  The document's set: place, Has, Above, Below, Count, At.
-/
import Derived.Test.YtcbfgodknonefaaDoorBnM
import Derived.Test.YtcbfgodknonefaaDoorBmQA
namespace Go.Proofs.YtcbfgodknonefaaDoor
open Go.RowKit Go.Deep Bt
set_option linter.unusedVariables false
set_option maxRecDepth 100000
set_option maxHeartbeats 1000000

/-- the list of a set's ticks may be read. -/
def Lr (w : World) (p : Option Addr) (l : List Int) : Prop := ∀ k (h : k < l.length), ∃ g, p = some ⟨g, 0, none⟩ ∧ w.cell? ⟨g, k, none⟩ = some (.int .i64 l[k])
/-- a list is a set's. -/
structure Tl (S : Nat → Bool) (l : List Int) : Prop where
  len : l.length = len S
  get : ∀ i (h : i < l.length), ∃ u : Nat, l[i] = (u : Int) ∧ S u = true ∧ u < 262144 ∧ cn S u = i
  place : ∀ n (h : ahd S n < l.length), (l[ahd S n] = n ↔ hasI S n = true)
  last : ∀ n, ¬ ahd S n < l.length → hasI S n = false
theorem Tl.of (S : Nat → Bool) : Tl S (tl S) := ⟨tl_len S, tl_get S, fun n h => place_at h, fun n h => place_end h⟩
theorem place_any (p : Option Addr) (cap : Nat) (S : Nat → Bool) (l : List Int) (hS : Tl S l) (n : Int) (w : World) (hc : Lr w p l) :
    Calls Tryd.prog 29 #[.slice p l.length cap, .int .i64 n] w fun e w' => e = .returned (.tuple #[.int .i64 (ahd S n : Nat), .bool (hasI S n)]) ∧ Below w.heap.size w w' := by
  have HC := hid hc
  have la := ahd_len S n
  have ll := len_le S
  have HG := hid hS.get
  have HPA := hid (hS.place n)
  have HPE := hid (hS.last n)
  have HRK := hid (fun (u : Nat) (hu : S u = true) (hl : u < 262144) => rank_lt hu hl n)
  have el := hS.len
  obtain ⟨L, hLL⟩ : ∃ L, l.length = L := ⟨_, rfl⟩
  obtain ⟨A, hA⟩ : ∃ A, ahd S n = A := ⟨_, rfl⟩
  rw [hA] at la ⊢
  rw [hLL] at el ⊢
  obtain ⟨B, hB⟩ : ∃ B, hasI S n = B := ⟨_, rfl⟩
  rw [hB] at HPA HPE ⊢
  have HA := hid hA
  have HLL := hid hLL
  have lA : A ≤ L := by omega
  have lL : (L : Int) < 9223372036854775807 := by omega
  clear hc hA hLL ll el la hB hS
  go_enter Tryd.func29, Tryd.ntmps29
  go_wp2_with fail
  go_loopw [6] (fun iv wr => ∃ i : Nat, i ≤ A ∧ iv = .int .i64 i ∧ wr = w) (fun iv _ => A - (intOf iv).toNat)
  case atStart => exact ⟨0, Nat.zero_le _, rfl, rfl⟩
  case round =>
    obtain ⟨i, hi, rfl, rfl⟩ := hrel
    by_cases hl : i < L
    · have i0 : (0 : Int) ≤ (i : Int) := by omega
      have i1 : (i : Int) < (L : Int) := by omega
      obtain ⟨g, rfl, hcell⟩ := HC.out i (by rw [HLL.out]; exact hl)
      obtain ⟨u, e, hu, hu2, hu3⟩ := HG.out i (by rw [HLL.out]; exact hl)
      rw [e] at hcell
      have hk := HRK.out u hu hu2
      rw [hu3, HA.out] at hk
      clear hu hu2 hu3
      by_cases hlt : i < A
      · have h1 : (u : Int) < n := hk.2 hlt
        clear hk e
        go_wp2_with fail
        go_roundw
        case rel => exact ⟨i + 1, by omega, by go_num, trivial⟩
        case measure => simp [intOf]; omega
      · have h1 : n ≤ (u : Int) := by
          by_cases c : (u : Int) < n
          · exact absurd (hk.1 c) hlt
          · omega
        have hiA : i = A := by omega
        have hpl := HPA.out (by rw [HLL.out, HA.out]; omega)
        rw [show l[ahd S n]'(by rw [HLL.out, HA.out]; omega) = (u : Int) by rw [← e]; congr 1; rw [HA.out, hiA]] at hpl
        subst hiA
        clear hk e
        by_cases he : (u : Int) = n
        · have hh := hpl.1 he
          subst hh
          have he2 : ((u : Int) == n) = true := by rw [he]; exact beq_self_eq_true n
          clear hpl
          go_wp2_with fail
          go_quiet (fail)
          go_wp2_with fail
          go_ret2
          exact ⟨rfl, below_drews rfl rfl rfl rfl⟩
        · have hh : B = false := by
            cases hx : B with
            | false => rfl
            | true => exact absurd (hpl.2 hx) he
          subst hh
          have he2 : ((u : Int) == n) = false := by simpa using he
          have h2 : decide ((u : Int) < n) = false := decide_eq_false (by omega)
          clear hpl he lA hi hlt hl
          go_wp2_with fail
          go_quiet (fail)
          go_wp2_with fail
          go_ret2
          exact ⟨rfl, below_drews rfl rfl rfl rfl⟩
    · have i1 : ¬ ((i : Int) < (L : Int)) := by omega
      have hiA : i = A := by omega
      have hh := HPE.out (by rw [HLL.out, HA.out]; omega)
      subst hh
      subst hiA
      go_wp2_with fail
      go_quiet (fail)
      go_wp2_with fail
      go_ret2
      exact ⟨rfl, below_drews rfl rfl rfl rfl⟩
theorem dhas_any (p : Option Addr) (cap : Nat) (S : Nat → Bool) (l : List Int) (hS : Tl S l) (n : Int) (w : World) (hc : Lr w p l) :
    Calls Tryd.prog 32 #[.slice p l.length cap, .int .i64 n] w fun e w' => e = .returned (.bool (hasI S n)) ∧ Below w.heap.size w w' := by
  have C := hid (place_any p cap S l hS n w hc)
  clear hc
  go_enter Tryd.func32, Tryd.ntmps32
  go_wp2_with (go_at_call 29; refine (C.out).mono ?_; rintro e w' ⟨rfl, hb⟩; have HB := hid hb; clear hb)
  go_ret
  exact ⟨rfl, HB.out⟩
theorem dat_any (p : Option Addr) (cap : Nat) (S : Nat → Bool) (l : List Int) (hS : Tl S l) (z : Int) (r : Option Nat) (hr : Ats S z r) (w : World) (hc : Lr w p l) :
    Calls Tryd.prog 36 #[.slice p l.length cap, .int .i64 z] w fun e w' => e = .returned (.tuple #[.int .i64 ((r.getD 0 : Nat) : Int), .bool r.isSome]) ∧ w' = w := by
  by_cases h0 : z < 0
  · have e : r = none := hr.one (show Ats S z none from Or.inl h0)
    subst e
    clear hc hr
    go_enter Tryd.func36, Tryd.ntmps36
    go_wp2_with fail
    go_ret2
    exact ⟨rfl, rfl⟩
  · by_cases h1 : (l.length : Int) ≤ z
    · have e : r = none := hr.one (show Ats S z none from Or.inr (by rw [hS.len] at h1; exact h1))
      subst e
      have h2 : 0 ≤ z := by omega
      clear hc hr h0
      go_enter Tryd.func36, Tryd.ntmps36
      go_wp2_with fail
      go_ret2
      exact ⟨rfl, rfl⟩
    · obtain ⟨k, rfl⟩ : ∃ k : Nat, z = k := ⟨z.toNat, by omega⟩
      obtain ⟨g, rfl, hcell⟩ := hc k (by omega)
      obtain ⟨u, e, hu, hu2, hu3⟩ := hS.get k (by omega)
      have er : r = some u := hr.one (show Ats S (k : Int) (some u) from ⟨hu2, hu, by rw [hu3]⟩)
      subst er
      rw [e] at hcell
      have h2 : (0 : Int) ≤ (k : Int) := by omega
      have h3 : (k : Int) < (l.length : Int) := by omega
      obtain ⟨L, hLL⟩ : ∃ L, l.length = L := ⟨_, rfl⟩
      rw [hLL] at h1 h3 ⊢
      clear hc hr h0 hLL e
      go_enter Tryd.func36, Tryd.ntmps36
      go_wp2_with fail
      go_ret2
      exact ⟨rfl, rfl⟩
end Go.Proofs.YtcbfgodknonefaaDoor
