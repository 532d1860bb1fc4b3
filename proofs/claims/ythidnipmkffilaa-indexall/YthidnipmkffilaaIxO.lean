/-
  The keys of an index, rising.
-/
import Derived.Test.YthidnipmkffilaaShelfS
import Derived.Test.YthidnipmkffilaaIxN
namespace Go.Proofs.Ythidnipmkffilaa
open Go.RowKit Go.Deep Go.Shelf Go.Lib Go.Sort
set_option linter.unusedVariables false
set_option linter.unusedSimpArgs false
set_option maxHeartbeats 400000 in
theorem isNaN_any (x : Int) (w : World) : Calls Try.prog 52 #[.int .u64 x] w fun e w' => e = .returned (.bool false) ∧ w' = w := by
  have xx : (x == x) = true := by simp
  go_enter Try.func52, Try.ntmps52
  go_wp2
  go_ret
  exact ⟨rfl, rfl⟩
set_option maxHeartbeats 1000000 in
theorem compare_any (x y : Int) (w : World) : Calls Try.prog 48 #[.int .u64 x, .int .u64 y] w fun e w' => e = .returned (.int .i64 (Lib.compareInt x y)) ∧ w' = w := by
  have hx := isNaN_any x w
  have hy := isNaN_any y w
  unfold Lib.compareInt
  by_cases h1 : x < y
  · simp only [h1, if_true]
    go_enter Try.func48, Try.ntmps48
    go_wp2_with (first | (go_at_call 52; with_reducible refine hx.mono ?_; rintro e w9 ⟨rfl, h9⟩; subst w9) | (go_at_call 52; with_reducible refine hy.mono ?_; rintro e w9 ⟨rfl, h9⟩; subst w9))
    go_ret
    exact ⟨rfl, rfl⟩
  · by_cases h2 : y < x
    · simp only [h1, h2, if_true, if_false]
      go_enter Try.func48, Try.ntmps48
      go_wp2_with (first | (go_at_call 52; with_reducible refine hx.mono ?_; rintro e w9 ⟨rfl, h9⟩; subst w9) | (go_at_call 52; with_reducible refine hy.mono ?_; rintro e w9 ⟨rfl, h9⟩; subst w9))
      go_ret
      exact ⟨rfl, rfl⟩
    · simp only [h1, h2, if_false]
      go_enter Try.func48, Try.ntmps48
      go_wp2_with (first | (go_at_call 52; with_reducible refine hx.mono ?_; rintro e w9 ⟨rfl, h9⟩; subst w9) | (go_at_call 52; with_reducible refine hy.mono ?_; rintro e w9 ⟨rfl, h9⟩; subst w9))
      go_ret
      exact ⟨rfl, rfl⟩
/-- a used place's three cells. -/
def encP (x : Int × Int) : List Value := [.bool true, .int .u64 x.1, .int .i64 x.2]
set_option maxHeartbeats 1000000 in
theorem closure47 (x y : Int × Int) (W : World) : Calls Try.prog 47 #[.agg #[.bool true, .int .u64 x.1, .int .i64 x.2], .agg #[.bool true, .int .u64 y.1, .int .i64 y.2]] W fun e w' => e = .returned (.int .i64 (Lib.compareInt x.1 y.1)) ∧ ∃ q os', w' = grow (W.drewN q) os' := by
  have hcon := fun W' => compare_any x.1 y.1 W'
  generalize Lib.compareInt x.1 y.1 = r at hcon ⊢
  go_enter Try.func47, Try.ntmps47
  go_wp2_with (go_at_call 48; refine (hcon _).mono ?_; rintro e w' ⟨rfl, rfl⟩)
  go_ret
  exact ⟨rfl, 0, _, by rw [alloc_eq_grow, alloc_eq_grow, grow_grow]; rfl⟩
theorem cmpLays47 (blk off size : Nat) (w : World) : CmpLays Try.prog 47 #[] encP 3 (fun x y => Lib.compareInt x.1 y.1) blk off size w :=
  fun _ _ _ _ x y => closure47 x y _
theorem ltK (x y : Int × Int) : ltOf (fun x y : Int × Int => Lib.compareInt x.1 y.1) x y = decide (x.1 < y.1) := by
  unfold ltOf Lib.compareInt
  by_cases h1 : x.1 < y.1
  · simp [h1]
  · by_cases h2 : y.1 < x.1 <;> simp [h1, h2]
theorem swoK : SWO (ltOf fun x y : Int × Int => Lib.compareInt x.1 y.1) where
  irrefl x := by rw [ltK]; simp
  trans x y z h1 h2 := by rw [ltK] at *; simp at *; omega
  ntrans x y z h1 h2 := by rw [ltK] at *; simp at *; omega
theorem sort_any (blk off cap : Nat) (d : Array (Int × Int)) (w : World) (hH : HoldsK encP 3 w blk off d) (hblk : blk < w.heap.size) (hsz : d.size < 4611686018427387904) :
    Calls Try.prog 46 #[.slice (some ⟨blk, off, none⟩) d.size cap, .func (.func 47) #[] #[]] w fun e w' => e = .returned (.tuple #[]) ∧ ∃ d' n os, PermIn 0 d.size d d' ∧ SortedIn (ltOf fun x y : Int × Int => Lib.compareInt x.1 y.1) 0 d.size d' ∧ w' = sortWorldK encP 3 w blk off n d' os := by
  have eg : ∀ args w, (callFunc 47 args).run Try.prog w = .ok (.enter 47 args) w := enters_of Try.func47 (by kernel_rfl) rfl
  exact AnyQ.slices_SortFunc Try.sortPl 3 Try.isAgg71 Try.sizeOf71 encP (fun _ => rfl) (fun x v hv => by simp [encP] at hv; rcases hv with rfl | rfl | rfl <;> rfl) (fun x y => Lib.compareInt x.1 y.1) swoK 47 #[] blk off cap d w eg (cmpLays47 blk off d.size w) hH hblk hsz
end Go.Proofs.Ythidnipmkffilaa
