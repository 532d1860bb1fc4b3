/-
  Clear of any number; the zero map.
-/
import Derived.Test.YtcbfgodknonefaaDoorBmE1
import Derived.Test.YtcbfgodknonefaaDoorBmE2
import Derived.Test.YtcbfgodknonefaaDoorBmE3
import Derived.Test.YtcbfgodknonefaaDoorBmI
namespace Go.Proofs.YtcbfgodknonefaaDoor
open Go.RowKit Go.Deep Bt
set_option linter.unusedVariables false
set_option maxRecDepth 100000
set_option maxHeartbeats 1000000

/-- Clear of any number. -/
theorem clear_any (b : Nat) (S : Nat → Bool) (t : Int) (w : World) (hB : Bm w b S) :
    Calls Tryd.prog 13 #[.pointer (some ⟨b, 0, none⟩), .int .i64 t] w fun e w' => e = .returned (.bool (hasI S t)) ∧ Ko b w w' ∧ Bm w' b (delI S t) := by
  by_cases h : hasI S t = true
  · have h' := h
    unfold hasI at h'
    simp only [Bool.and_eq_true, decide_eq_true_eq] at h'
    obtain ⟨⟨h1, h2⟩, h3⟩ := h'
    obtain ⟨k, rfl⟩ : ∃ k : Nat, t = k := ⟨t.toNat, by omega⟩
    rw [Int.toNat_natCast] at h3
    have hk : k < 262144 := by omega
    have e1 : delI S (k : Int) = del S k := by unfold delI; rw [if_pos ⟨h1, h2⟩, Int.toNat_natCast]
    rw [e1, h]
    by_cases c1 : lo S (k / 64) &&& nb (k % 64) = 0
    · by_cases c2 : mi S (k / 64 / 64) &&& nb (k / 64 % 64) = 0
      · exact clear_3 b S k w hB hk h3 c1 c2
      · exact clear_2 b S k w hB hk h3 c1 c2
    · exact clear_1 b S k w hB hk h3 c1
  · have h' : hasI S t = false := by simpa using h
    have e1 : delI S t = S := by
      unfold delI
      by_cases hr : 0 ≤ t ∧ t < 262144
      · rw [if_pos hr]
        refine del_none S _ ?_
        have := hasI_nat S t.toNat (by omega)
        rw [show ((t.toNat : Nat) : Int) = t by omega, h'] at this
        exact this.symm
      · rw [if_neg hr]
    rw [e1]
    have CH := hid (fun (w : World) (hB : Bm w b S) => has_any b S t w hB)
    rw [h'] at CH ⊢
    have HB := hid hB
    clear hB h h' e1
    go_enter Tryd.func13, Tryd.ntmps13
    go_wp2_with (first | (go_at_call 26; refine (CH.out _ HB.out).mono ?_; rintro e w2 ⟨rfl, hb⟩; have HK := hid (And.intro (Ko.of (b := b) hb) (HB.out.on hb)); clear hb))
    go_ret
    exact ⟨rfl, HK.out⟩

/-- the empty set. -/
def emp : Nat → Bool := fun _ => false
theorem lo_emp (i : Nat) : lo emp i = 0 := (lo_zero _ _).2 (fun _ _ => rfl)
theorem mi_emp (i : Nat) : mi emp i = 0 := (mi_zero _ _).2 (fun _ _ => lo_emp _)
theorem tp_emp : tp emp = 0 := (tp_zero _).2 (fun _ _ => mi_emp _)
theorem cellv_emp (i : Nat) : cellv emp i = 0 := by
  unfold cellv; split
  · exact tp_emp
  · split
    · exact mi_emp _
    · exact lo_emp _
def zrow : Array Value := Array.replicate 4161 (.int .u64 0)
theorem info28 : (Tryd.prog.info? 28).map (fun i => i.zero) = some (some (.agg zrow)) := by kernel_rfl
theorem run_zero28 (w : World) : (zeroValue 28).run Tryd.prog w = .ok (.agg zrow) w := by
  have h := info28
  cases hi : Tryd.prog.info? 28 with
  | none => rw [hi] at h; simp at h
  | some i =>
    rw [hi] at h
    simp at h
    simp [zeroValue, typeInfo, go_sem, hi, h]
theorem Bm.new (w : World) : Bm (w.alloc (.cells zrow 28)) w.heap.size emp := by
  refine ⟨zrow, World.alloc_heap_new _ _, Array.size_replicate, fun i hi => ?_⟩
  rw [cellv_emp]
  unfold zrow
  rw [Array.getElem?_replicate, if_pos hi]; rfl
end Go.Proofs.YtcbfgodknonefaaDoor
