/-
  What is left of an interest, what it traded (the law's own calls).
-/
import Derived.Test.YtknikhoobhgidaaEmA
namespace Go.Proofs.Ytknikhoobhgidaa
open Go.RowKit Go.Deep Go.Shelf
set_option linter.unusedVariables false
set_option linter.unusedSimpArgs false
set_option maxHeartbeats 4000000
set_option maxRecDepth 100000
/-- what is left of an ID; 0: it is gone. -/
def lfo (id : Int) : List It → Int
  | [] => 0
  | x :: l => if x.id = id then x.qt else lfo id l
theorem lfo_none {id : Int} : ∀ {l : List It}, (∀ j (h : j < l.length), (l[j]).id ≠ id) → lfo id l = 0
  | [], _ => rfl
  | x :: l, h => by
    unfold lfo
    rw [if_neg (by have := h 0 (by simp); simpa using this)]
    exact lfo_none (fun j hj => by have := h (j + 1) (by simpa using hj); simpa using this)
theorem lfo_at {id : Int} : ∀ {l : List It} {i : Nat} (hi : i < l.length), (∀ j (h : j < l.length), j < i → (l[j]).id ≠ id) → (l[i]).id = id → lfo id l = (l[i]).qt
  | x :: l, 0, hi, _, h => by unfold lfo; rw [if_pos (by simpa using h)]; rfl
  | x :: l, i + 1, hi, ha, h => by
    unfold lfo
    rw [if_neg (by have := ha 0 (by simp) (by omega); simpa using this)]
    have := lfo_at (l := l) (i := i) (by simpa using hi) (fun j hj hji => by have := ha (j + 1) (by simpa using hj) (by omega); simpa using this) (by simpa using h)
    simpa using this
theorem left_any (p : Option Addr) (c : Nat) (l : List It) (id : Int) (w : World) (h : Li w p c l) (hn : l.length ≤ 4096) :
    Calls Try.prog 31 #[.slice p l.length c, .int .u64 id] w fun e w' => e = .returned (.int .u64 (lfo id l)) ∧ w = w' := by
  obtain ⟨n, hnn⟩ : ∃ n, l.length = n := ⟨_, rfl⟩
  have HN := hid hnn
  have H := hid h
  rw [hnn] at hn ⊢
  clear hnn h
  go_enter Try.func31, Try.ntmps31
  go_wp2
  go_loopw [5] (fun iv wr => ∃ i : Nat, i ≤ n ∧ iv = .int .i64 i ∧ Hid (∀ j (hj : j < l.length), j < i → (l[j]).id ≠ id) ∧ Hid (w = wr)) (fun iv _ => n - (intOf iv).toNat)
  case atStart => exact ⟨0, Nat.zero_le _, rfl, hid (fun j hj h => by omega), hid rfl⟩
  case round =>
    obtain ⟨i, hin, rfl, HJ, HW⟩ := hrel
    have hw := HW.out
    subst hw
    by_cases hlt : i < n
    · have hi : i < l.length := by rw [HN.out]; exact hlt
      obtain ⟨g, hp, a0, a1, a2, a3, a4, a5⟩ := H.out.cells hi
      subst hp
      obtain ⟨z, hz⟩ : ∃ z, l[i] = z := ⟨_, rfl⟩
      rw [hz] at a0 a1 a2 a3 a4 a5
      have HZ := hid hz
      have i0 : (0 : Int) ≤ (i : Int) := by omega
      have i1 : (i : Int) < (n : Int) := by omega
      clear hz
      by_cases he : z.id = id
      · have t1 : (z.id == id) = true := by simpa using he
        have HE := hid he
        clear he
        go_wp2
        go_ret
        exact ⟨by rw [lfo_at hi HJ.out (by rw [HZ.out]; exact HE.out), HZ.out]; rfl, rfl⟩
      · have t1 : (z.id == id) = false := by simpa using he
        have HE := hid he
        clear he
        go_wp2
        go_roundw
        case rel =>
          refine ⟨i + 1, by omega, by go_num, hid (fun j hj hl => ?_), hid (by first | rfl | trivial)⟩
          by_cases hji : j = i
          · subst hji; rw [HZ.out]; exact HE.out
          · exact HJ.out j hj (by omega)
        case measure => simp [intOf]; omega
    · obtain rfl : i = n := by omega
      go_wp2
      go_ret
      exact ⟨by rw [lfo_none (fun j hj => HJ.out j hj (by have := HN.out; omega))]; rfl, rfl⟩
end Go.Proofs.Ytknikhoobhgidaa
