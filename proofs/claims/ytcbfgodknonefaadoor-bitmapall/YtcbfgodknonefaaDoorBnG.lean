/-
  turn, All, Back: a pair of a map and the document's list.
-/
import Derived.Test.YtcbfgodknonefaaDoorBnF
import Derived.Test.YtcbfgodknonefaaDoorBmT
import Derived.Laws.Tables
import Derived.Laws.Rows
namespace Go.Proofs.YtcbfgodknonefaaDoor
open Go.RowKit Go.Deep Bt
set_option linter.unusedVariables false
set_option maxRecDepth 100000
set_option maxHeartbeats 1000000

/-- the set with a tick turned; whether it was turned. -/
def trn (S : Nat → Bool) (t : Int) : Nat → Bool := if hasI S t then delI S t else insI S t
def isT (t : Int) : Bool := decide (0 ≤ t ∧ t < 262144)
theorem turn_any (b : Nat) (S : Nat → Bool) (v : Value) (t : Int) (w : World) (hB : Bm w b S) (hv : v.oneCell' = true) :
    Calls Tryd.prog 52 #[.agg #[.pointer (some ⟨b, 0, none⟩), v], .int .i64 t] w fun e w' => e = .returned (.bool (isT t)) ∧ Ko b w w' ∧ Bm w' b (trn S t) := by
  have HB0 := hid (show Bm (w.alloc (.cells #[.pointer (some ⟨b, 0, none⟩), v] 32)) b S from hB.same (Below.heap_alloc _ _ _ hB.lt))
  have HK0 := hid (show Ko b w (w.alloc (.cells #[.pointer (some ⟨b, 0, none⟩), v] 32)) from Ko.of ((Below.refl _ w).alloc (Nat.le_refl _) _))
  have hrow : (w.alloc (.cells #[.pointer (some ⟨b, 0, none⟩), v] 32)).heap[w.heap.size]? = some (.cells #[.pointer (some ⟨b, 0, none⟩), v] 32 (0, 0)) := World.alloc_heap_new _ _
  have lb := hB.lt
  have CH := hid (fun (w : World) (hB : Bm w b S) => has_any b S t w hB)
  have CD := hid (fun (w : World) (hB : Bm w b S) => clear_any b S t w hB)
  have CS := hid (fun (w : World) (hB : Bm w b S) => set_any b S t w hB)
  have RW := hid hrow
  cases hh : hasI S t with
  | true =>
    have e1 : isT t = true := by
      unfold hasI at hh
      simp only [Bool.and_eq_true, decide_eq_true_eq] at hh
      unfold isT
      exact decide_eq_true hh.1
    have e2 : trn S t = delI S t := by unfold trn; rw [hh]; rfl
    rw [e1, e2]
    rw [hh] at CH CD
    have c0 := row_cell hrow 0
    simp only [List.getElem?_toArray, List.getElem?_cons_zero] at c0
    clear hB hrow hh e1 e2
    go_enter Tryd.func52, Tryd.ntmps52
    go_wp2_with (first
      | (go_at_call 26; refine (CH.out _ HB0.out).mono ?_; clear CH; rintro e w1 ⟨rfl, hb⟩; have HB1 := hid (HB0.out.on hb); have HK1 := hid (HK0.out.trans (Ko.of hb)); have c1 := row_cell ((hb.block w.heap.size (by simp)).trans RW.out) 0; simp only [List.getElem?_toArray, List.getElem?_cons_zero] at c1; clear hb)
      | (go_at_call 13; refine (CD.out _ HB1.out).mono ?_; clear CD; rintro e w2 ⟨rfl, hk, hm⟩; have HK2 := hid (HK1.out.trans hk); have HM2 := hid hm; clear hk hm))
    go_ret
    exact ⟨rfl, HK2.out, HM2.out⟩
  | false =>
    have e1 : isT t = setI S t := by unfold isT setI; rw [hh]; simp
    have e2 : trn S t = insI S t := by unfold trn; rw [hh]; rfl
    rw [e1, e2]
    rw [hh] at CH
    have c0 := row_cell hrow 0
    simp only [List.getElem?_toArray, List.getElem?_cons_zero] at c0
    clear hB hrow hh e1 e2
    go_enter Tryd.func52, Tryd.ntmps52
    go_wp2_with (first
      | (go_at_call 26; refine (CH.out _ HB0.out).mono ?_; clear CH; rintro e w1 ⟨rfl, hb⟩; have HB1 := hid (HB0.out.on hb); have HK1 := hid (HK0.out.trans (Ko.of hb)); have c1 := row_cell ((hb.block w.heap.size (by simp)).trans RW.out) 0; simp only [List.getElem?_toArray, List.getElem?_cons_zero] at c1; clear hb)
      | (go_at_call 11; refine (CS.out _ HB1.out).mono ?_; clear CS; rintro e w2 ⟨rfl, hk, hm⟩; have HK2 := hid (HK1.out.trans hk); have HM2 := hid hm; clear hk hm))
    go_ret
    exact ⟨rfl, HK2.out, HM2.out⟩
theorem all_any (b : Nat) (w : World) :
    Calls Tryd.prog 50 #[.pointer (some ⟨b, 0, none⟩)] w fun e w' => e = .returned (.func (.func 55) #[] #[.pointer (some ⟨w.heap.size, 0, none⟩)]) ∧ w' = w.alloc (.cells #[.pointer (some ⟨b, 0, none⟩)] 23) := by
  go_enter Tryd.func50, Tryd.ntmps50
  go_wp2_with fail
  go_ret
  exact ⟨rfl, rfl⟩
theorem back_any (b : Nat) (w : World) :
    Calls Tryd.prog 51 #[.pointer (some ⟨b, 0, none⟩)] w fun e w' => e = .returned (.func (.func 56) #[] #[.pointer (some ⟨w.heap.size, 0, none⟩)]) ∧ w' = w.alloc (.cells #[.pointer (some ⟨b, 0, none⟩)] 23) := by
  go_enter Tryd.func51, Tryd.ntmps51
  go_wp2_with fail
  go_ret
  exact ⟨rfl, rfl⟩
/-- turned twice, nothing has happened. -/
theorem trn_trn (S : Nat → Bool) (t : Int) : trn (trn S t) t = S := by
  by_cases h : 0 ≤ t ∧ t < 262144
  · obtain ⟨k, rfl⟩ : ∃ k : Nat, t = k := ⟨t.toNat, by omega⟩
    have hk : k < 262144 := by omega
    have e1 : ∀ T, insI T (k : Int) = ins T k := fun T => by unfold insI; rw [if_pos h, Int.toNat_natCast]
    have e2 : ∀ T, delI T (k : Int) = del T k := fun T => by unfold delI; rw [if_pos h, Int.toNat_natCast]
    unfold trn
    simp only [e1, e2, hasI_nat _ k hk]
    cases hS : S k with
    | true =>
      have : del S k k = false := by unfold del; simp
      simp only [if_true, this, Bool.false_eq_true, if_false]
      funext x
      unfold ins del
      by_cases e : x = k
      · subst e; simp [hS]
      · simp [e]
    | false =>
      have : ins S k k = true := by unfold ins; simp
      simp only [Bool.false_eq_true, if_false, this, if_true]
      exact del_ins S k hS
  · have e1 : ∀ T, insI T t = T := fun T => by unfold insI; rw [if_neg h]
    have e3 : ∀ T, hasI T t = false := fun T => hasI_out T t h
    unfold trn
    simp [e1, e3]
end Go.Proofs.YtcbfgodknonefaaDoor
