/-
  ordersCanBe: the loop; configCanBe.
-/
import Derived.Test.YtjpkodllemoniaaDoorRcA2
namespace Go.Proofs.YtjpkodllemoniaaDoor.Sr
open Go.RowKit Go.Deep
set_option linter.unusedVariables false
set_option linter.unusedSimpArgs false
set_option maxHeartbeats 8000000
set_option maxRecDepth 100000
/-- all orders can stand there. -/
def AllOk (h : Int) (l : List Rt) : Prop := ∀ i (hi : i < l.length), RtOk h l[i]
instance (h : Int) (l : List Rt) : Decidable (AllOk h l) := by unfold AllOk; infer_instance
theorem indexR_any (P : Nat) (h : Int) (p : Option Addr) (c : Nat) (l : List Rt) (w : World) (hz : Rz w p l) (hn : l.length ≤ 4096) (hP : P < w.heap.size) (hc : w.cell? ⟨P, 0, none⟩ = some (.int .u64 h)) (hw : ∀ i (hi : i < l.length), RtW l[i]) :
    Calls Tryd.prog 54 #[.slice p l.length c, .func (.func 47) #[] #[.pointer (some ⟨P, 0, none⟩)]] w fun e w' => (∃ r : Int, e = .returned (.int .i64 r) ∧ ((AllOk h l ∧ r < 0) ∨ (¬ AllOk h l ∧ 0 ≤ r))) ∧ Below w.heap.size w w' := by
  have HZ := hid hz
  have HC := hid hc
  have HW := hid hw
  obtain ⟨n, hnl⟩ : ∃ n, l.length = n := ⟨_, rfl⟩
  rw [hnl] at hn ⊢
  have HNL := hid hnl
  clear hz hc hw hnl
  go_enter Tryd.func54, Tryd.ntmps54
  go_upto_region 2 with fail
  go_loopw [8, 5] (fun iv jv wr => ∃ (i : Nat), iv = .int .i64 i ∧ i ≤ n ∧ Hid (∀ j (hj : j < l.length), j < i → RtOk h l[j]) ∧ Hid (Below w.heap.size w wr)) (fun iv _ _ => n - (intOf iv).toNat)
  case atStart => exact ⟨0, rfl, by omega, hid (fun j _ hj => absurd hj (Nat.not_lt_zero j)), hid (Below.refl _ _)⟩
  case round =>
    obtain ⟨i, rfl, i1, HS, HB⟩ := hrel
    by_cases hi : i < n
    · have ii : (i : Int) < (n : Int) := by omega
      have ii0 : (0 : Int) ≤ (i : Int) := by omega
      have wi : IntKind.i64.wrap ((i : Int) + 1) = ((i + 1 : Nat) : Int) := by rw [IntKind.wrap_i64]; omega
      have hil : i < l.length := by rw [HNL.out]; exact hi
      obtain ⟨g, hpg, hgl, a0, a1, a2, a3, a4, a5, a6⟩ := (HZ.out.on HB.out) i hil
      subst hpg
      by_cases hok : RtOk h l[i]
      · have C1 := hid (ordok1_any P h (l[i]) (HW.out i hil) true (by simp [hok]) wr (Nat.lt_of_lt_of_le hP HB.out.size) ((HB.out.cell (p := ⟨P, 0, none⟩) hP).trans HC.out))
        simp only [Bool.not_true] at C1
        have HS2 := hid (show ∀ j (hj : j < l.length), j < i + 1 → RtOk h l[j] from fun j hj h1 => by
          by_cases e : j = i
          · subst e; exact hok
          · exact HS.out j hj (by omega))
        obtain ⟨x, hx⟩ : ∃ x, l[i]'hil = x := ⟨_, rfl⟩
        rw [hx] at a0 a1 a2 a3 a4 a5 a6 C1
        unfold rtr at C1
        clear hx hil hok
        go_wp2_with (go_at_call 47; with_reducible refine (C1.out).mono ?_; rintro e w1 ⟨rfl, H1⟩; have HA := hid H1; clear H1)
        go_roundw
        case rel => exact ⟨i + 1, by go_num, by omega, HS2, hid (HB.out.trans (HA.out.mono HB.out.size))⟩
        case measure => first | (simp [intOf]; done) | (simp [intOf]; omega)
      · have C1 := hid (ordok1_any P h (l[i]) (HW.out i hil) false (by simp [hok]) wr (Nat.lt_of_lt_of_le hP HB.out.size) ((HB.out.cell (p := ⟨P, 0, none⟩) hP).trans HC.out))
        simp only [Bool.not_false] at C1
        have HNO := hid (show ¬ AllOk h l from fun ha => hok (ha i hil))
        obtain ⟨x, hx⟩ : ∃ x, l[i]'hil = x := ⟨_, rfl⟩
        rw [hx] at a0 a1 a2 a3 a4 a5 a6 C1
        unfold rtr at C1
        clear hx hil hok
        go_wp2_with (go_at_call 47; with_reducible refine (C1.out).mono ?_; rintro e w1 ⟨rfl, H1⟩; have HA := hid H1; clear H1)
        go_ret
        exact ⟨⟨i, rfl, .inr ⟨HNO.out, ii0⟩⟩, HB.out.trans (HA.out.mono HB.out.size)⟩
    · have ii : ¬ (i : Int) < (n : Int) := by omega
      have di : decide ((i : Int) < (n : Int)) = false := decide_eq_false ii
      have HYES := hid (show AllOk h l from fun j hj => HS.out j hj (by have := HNL.out; omega))
      go_wp2
      go_ret
      exact ⟨⟨-1, rfl, .inl ⟨HYES.out, by decide⟩⟩, HB.out⟩
theorem contains_any (P : Nat) (h : Int) (p : Option Addr) (c : Nat) (l : List Rt) (w : World) (hz : Rz w p l) (hn : l.length ≤ 4096) (hP : P < w.heap.size) (hc : w.cell? ⟨P, 0, none⟩ = some (.int .u64 h)) (hw : ∀ i (hi : i < l.length), RtW l[i]) :
    Calls Tryd.prog 46 #[.slice p l.length c, .func (.func 47) #[] #[.pointer (some ⟨P, 0, none⟩)]] w fun e w' => e = .returned (.bool (!decide (AllOk h l))) ∧ Below w.heap.size w w' := by
  have C := hid (indexR_any P h p c l w hz hn hP hc hw)
  obtain ⟨n, hn'⟩ : ∃ n, l.length = n := ⟨_, rfl⟩
  rw [hn'] at C ⊢
  clear hz hn hP hc hw hn'
  go_enter Tryd.func46, Tryd.ntmps46
  by_cases hA : AllOk h l
  · have C2 := hid (show Calls Tryd.prog 54 #[.slice p n c, .func (.func 47) #[] #[.pointer (some ⟨P, 0, none⟩)]] w fun e w' => ∃ r : Int, e = .returned (.int .i64 r) ∧ r < 0 ∧ Below w.heap.size w w' from C.out.mono fun e w' hh => by
      obtain ⟨⟨r, e1, ⟨_, e2⟩ | ⟨e2, _⟩⟩, e3⟩ := hh
      · exact ⟨r, e1, e2, e3⟩
      · exact absurd hA e2)
    have ee : (!decide (AllOk h l)) = false := by simp [hA]
    rw [ee]
    clear C hA ee
    go_wp2_with (go_at_call 54; with_reducible refine (C2.out).mono ?_; rintro e w1 ⟨r, rfl, hr, H1⟩; have HA := hid H1; have dr : decide (0 ≤ r) = false := decide_eq_false (by omega); clear H1 hr)
    go_ret
    exact ⟨rfl, HA.out⟩
  · have C2 := hid (show Calls Tryd.prog 54 #[.slice p n c, .func (.func 47) #[] #[.pointer (some ⟨P, 0, none⟩)]] w fun e w' => ∃ r : Int, e = .returned (.int .i64 r) ∧ 0 ≤ r ∧ Below w.heap.size w w' from C.out.mono fun e w' hh => by
      obtain ⟨⟨r, e1, ⟨e2, _⟩ | ⟨_, e2⟩⟩, e3⟩ := hh
      · exact absurd e2 hA
      · exact ⟨r, e1, e2, e3⟩)
    have ee : (!decide (AllOk h l)) = true := by simp [hA]
    rw [ee]
    clear C hA ee
    go_wp2_with (go_at_call 54; with_reducible refine (C2.out).mono ?_; rintro e w1 ⟨r, rfl, hr, H1⟩; have HA := hid H1; have dr : decide (0 ≤ r) = true := decide_eq_true hr; clear H1 hr)
    go_ret
    exact ⟨rfl, HA.out⟩
theorem ordok_any (h : Int) (p : Option Addr) (c : Nat) (l : List Rt) (w : World) (hz : Rz w p l) (hn : l.length ≤ 4096) (hw : ∀ i (hi : i < l.length), RtW l[i]) :
    Calls Tryd.prog 32 #[.slice p l.length c, .int .u64 h] w fun e w' => e = .returned (.bool (decide (AllOk h l))) ∧ Below w.heap.size w w' := by
  have C := hid (contains_any w.heap.size h p c l (w.alloc (.cells #[.int .u64 h] 25)) (hz.on (ball _ _)) hn (by simp) (row_cell (World.alloc_heap_new w (.cells #[.int .u64 h] 25)) 0) hw)
  obtain ⟨b, hb⟩ : ∃ b, decide (AllOk h l) = b := ⟨_, rfl⟩
  rw [hb] at C ⊢
  clear hz hn hw hb
  go_enter Tryd.func32, Tryd.ntmps32
  go_wp2_with (go_at_call 46; with_reducible refine (C.out).mono ?_; rintro e w1 ⟨rfl, H1⟩; have HA := hid H1; clear H1)
  go_ret
  exact ⟨by simp, btr (ball _ _) HA.out⟩
end Go.Proofs.YtjpkodllemoniaaDoor.Sr
