/-
  StB
-/
import Derived.Test.YtegaphjbepcgfaaStP
namespace Go.Proofs.Ytegaphjbepcgfaa.Ss
open Go.RowKit Go.Deep
set_option linter.unusedVariables false
set_option linter.unusedSimpArgs false
set_option maxHeartbeats 8000000
set_option maxRecDepth 100000
attribute [local go_sem ↓] Go.wp_at_zero Go.wp_at_succ
def cm (x y : Int) : Int := if x < y then -1 else if y < x then 1 else 0
theorem cm_neg (x y : Int) : decide (cm x y < 0) = decide (x < y) := by
  unfold cm
  split
  · rename_i h
    simp [h]
  · rename_i h
    rw [decide_eq_false h]
    split <;> rfl
theorem nan_any (x : Int) (w : World) : Calls Try.prog 74 #[.int .u64 x] w fun e w' => e = .returned (.bool false) ∧ w' = w := by
  go_enter Try.func74, Try.ntmps74
  go_wp2
  go_ret
  simp
theorem compare_any (x y : Int) (w : World) : Calls Try.prog 68 #[.int .u64 x, .int .u64 y] w fun e w' => e = .returned (.int .i64 (cm x y)) ∧ w' = w := by
  have CN := hid nan_any
  unfold cm
  by_cases h : x < y
  · rw [if_pos h]
    have e1 : decide (x < y) = true := decide_eq_true h
    go_enter Try.func68, Try.ntmps68
    go_wp2_with (go_at_call 74; with_reducible refine (CN.out _ _).mono ?_; rintro e w1 ⟨rfl, h1⟩; subst h1)
    go_ret
    exact ⟨rfl, rfl⟩
  · rw [if_neg h]
    have e1 : decide (x < y) = false := decide_eq_false h
    by_cases h2 : y < x
    · rw [if_pos h2]
      have e2 : decide (y < x) = true := decide_eq_true h2
      go_enter Try.func68, Try.ntmps68
      go_wp2_with (go_at_call 74; with_reducible refine (CN.out _ _).mono ?_; rintro e w1 ⟨rfl, h1⟩; subst h1)
      go_ret
      exact ⟨rfl, rfl⟩
    · rw [if_neg h2]
      have e2 : decide (y < x) = false := decide_eq_false h2
      go_enter Try.func68, Try.ntmps68
      go_wp2_with (go_at_call 74; with_reducible refine (CN.out _ _).mono ?_; rintro e w1 ⟨rfl, h1⟩; subst h1)
      go_ret
      exact ⟨rfl, rfl⟩
/-- the closure's variable, and the rests. -/
structure Cb (w : World) (B gr N c : Nat) (rs : List Int) : Prop where
  box : w.cell? ⟨B, 0, none⟩ = some (.slice (some ⟨gr, 0, none⟩) N c)
  cel : ∀ i, i < N → w.cell? ⟨gr, i, none⟩ = some (.int .u64 (gd rs i))
  ltB : B < w.heap.size
  ltG : gr < w.heap.size
theorem Cb.kept {w w' : World} {B gr N c : Nat} {rs : List Int} {g : Nat} (h : Cb w B gr N c rs) (hk : Kp (fun b => b = g) w w') (hB : B ≠ g) (hg : gr ≠ g) : Cb w' B gr N c rs := by
  have eB := hk.obj B h.ltB hB
  have eG := hk.obj gr h.ltG hg
  refine ⟨?_, fun i hi => ?_, Nat.lt_of_lt_of_le h.ltB hk.size, Nat.lt_of_lt_of_le h.ltG hk.size⟩
  · have := h.box
    unfold World.cell? at this ⊢
    rw [eB]
    exact this
  · have := h.cel i hi
    unfold World.cell? at this ⊢
    rw [eG]
    exact this
theorem closure_any {w : World} {B gr N c : Nat} {rs : List Int} (h : Cb w B gr N c rs) (i j : Nat) (hi : i < N) (hj : j < N) :
    Calls Try.prog 67 #[.int .i64 i, .int .i64 j, .pointer (some ⟨B, 0, none⟩)] w fun e w' => e = .returned (.int .i64 (cm (gd rs j) (gd rs i))) ∧ ∃ m, w' = w.drewN m := by
  have hb := h.box
  have h1 := h.cel i hi
  have h2 := h.cel j hj
  have i0 : (0 : Int) ≤ (i : Int) := by omega
  have i1 : (i : Int) < (N : Int) := by omega
  have j0 : (0 : Int) ≤ (j : Int) := by omega
  have j1 : (j : Int) < (N : Int) := by omega
  obtain ⟨x, hx⟩ : ∃ x, gd rs i = x := ⟨_, rfl⟩
  obtain ⟨y, hy⟩ : ∃ x, gd rs j = x := ⟨_, rfl⟩
  rw [hx] at h1 ⊢
  rw [hy] at h2 ⊢
  clear h hi hj hx hy
  go_enter Try.func67, Try.ntmps67
  go_upto_region 1 with fail
  go_quiet (first | (go_at_call 68; with_reducible exact Calls.quiet_of_same (compare_any _ _ _)))
  go_wp2
  go_ret
  exact ⟨rfl, nq, rfl⟩
/-- what the sort may ask of it, as long as only block g changes. -/
def Cq (w0 : World) (g B N : Nat) (r : Int → Int) : Prop := ∀ U, Kp (fun b => b = g) w0 U → ∀ x y : Int, 0 ≤ x → x < N → 0 ≤ y → y < N → ∀ k, Calls Try.prog 67 #[.int .i64 x, .int .i64 y, .pointer (some ⟨B, 0, none⟩)] (U.drewN k) fun e w' => e = .returned (.int .i64 (cm (r y) (r x))) ∧ ∃ m, w' = (U.drewN k).drewN m
theorem Cq.on {w0 w1 : World} {g B N : Nat} {r : Int → Int} (h : Cq w0 g B N r) (hk : Kp (fun b => b = g) w0 w1) : Cq w1 g B N r := fun U hU => h U (hk.trans hU (fun _ _ e => e))
theorem cq_of {w : World} {g B gr N c : Nat} {rs : List Int} (h : Cb w B gr N c rs) (hB : B ≠ g) (hg : gr ≠ g) : Cq w g B N (fun x => gd rs x.toNat) := fun U hU x y x0 x1 y0 y1 k => by
  obtain ⟨i, rfl⟩ := Int.eq_ofNat_of_zero_le x0
  obtain ⟨j, rfl⟩ := Int.eq_ofNat_of_zero_le y0
  exact closure_any ((h.kept hU hB hg).kept (g := g) (Kp.drewN _ _ k) hB hg) i j (by omega) (by omega)
end Go.Proofs.Ytegaphjbepcgfaa.Ss
