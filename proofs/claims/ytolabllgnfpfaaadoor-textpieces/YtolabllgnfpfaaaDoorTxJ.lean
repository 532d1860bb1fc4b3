/-
  text.isValue, text.fits, text.Sum.
-/
import Derived.Test.YtolabllgnfpfaaaDoorTxI
import Derived.Test.YtolabllgnfpfaaaDoorTxG
namespace Go.Proofs.YtolabllgnfpfaaaDoor
open Go.RowKit Go.Deep Go.Lib Go.Shelf Go.Sort
set_option linter.unusedVariables false

set_option maxHeartbeats 4000000 in
set_option maxRecDepth 100000 in
/-- text.isValue. -/
theorem isvalue_any (l : List UInt8) (w : World) (hl : l.length < 9223372036854775808) :
    Calls Tryd.prog 41 #[.string ⟨l.toArray⟩] w fun e w' => e = .returned (.bool (decide (ValOk l))) ∧ w' = w := by
  go_enter Tryd.func41, Tryd.ntmps41
  go_wp2_with fail
  go_loopw [7] (fun iv wr => ∃ k : Nat, k ≤ l.length ∧ iv = .int .i64 k ∧ wr = w ∧ Hid (∀ c ∈ l.take k, Pr c)) (fun iv _ => l.length - (RowKit.intOf iv).toNat)
  case atStart => exact ⟨0, Nat.zero_le _, rfl, rfl, fun x hx => by simp at hx⟩
  case round =>
    obtain ⟨k, hk, rfl, rfl, HN⟩ := hrel
    by_cases hlt : k < l.length
    · obtain ⟨c, hc⟩ : ∃ c, l[k] = c := ⟨_, rfl⟩
      have hx : ∀ h : k < (⟨l.toArray⟩ : ByteArray).size, (⟨l.toArray⟩ : ByteArray)[k] = c := fun h => by rw [ba_at l k hlt h, hc]
      have i0 : (0 : Int) ≤ (k : Int) := by omega
      have i1 : (k : Int) < (l.length : Int) := by omega
      have hc256 : c.toNat < 256 := c.toNat_lt
      have HC := hid hc
      clear hc
      by_cases hp : Pr c
      · have HN2 := hid (take_all hlt HN.out (by rw [HC.out]; exact hp))
        unfold Pr at hp
        have u1 : ¬ ((c.toNat : Int) < 32) := by omega
        have u2 : ¬ ((126 : Int) < (c.toNat : Int)) := by omega
        clear hp
        go_wp2
        go_roundw
        case rel => exact ⟨k + 1, by omega, by go_num, trivial, HN2⟩
        case measure => simp [RowKit.intOf]; omega
      · have HF := hid (show decide (ValOk l) = false from decide_eq_false (fun h => hp (h.2 c (by rw [← HC.out]; exact List.getElem_mem hlt))))
        unfold Pr at hp
        by_cases u1 : (c.toNat : Int) < 32
        · clear hp
          go_wp2
          go_ret
          exact ⟨by rw [HF.out]; rfl, rfl⟩
        · have u2 : (126 : Int) < (c.toNat : Int) := by omega
          clear hp
          go_wp2
          go_ret
          exact ⟨by rw [HF.out]; rfl, rfl⟩
    · have hall := HN.out
      rw [List.take_of_length_le (by omega)] at hall
      by_cases h0 : l = []
      · subst h0
        have HF := hid (show decide (ValOk []) = false from decide_eq_false (fun h => h.1 rfl))
        clear hall
        go_wp2
        go_ret
        exact ⟨by rw [HF.out]; rfl, rfl⟩
      · have HF := hid (show decide (ValOk l) = true from decide_eq_true ⟨h0, hall⟩)
        have hz : (l == []) = false := by simpa using h0
        clear hall h0
        go_wp2
        go_ret
        exact ⟨by rw [HF.out]; first | rfl | simp [hz], rfl⟩

theorem cell_new {w w1 : World} {cs : Array Value} {T : TypeId} (j : Nat) {u : Value} (hb : Below (w.alloc (.cells cs T)).heap.size (w.alloc (.cells cs T)) w1) (h : cs[j]? = some u) : w1.cell? ⟨w.heap.size, j, none⟩ = some u := by
  rw [hb.cell (by simp)]
  rw [World.cell?_alloc_new]
  exact h

set_option maxHeartbeats 4000000 in
set_option maxRecDepth 100000 in
/-- text.fits. -/
theorem fits_any (l : List (Int × List UInt8)) (q : Option Addr) (cap : Nat) (t : Int) (v : List UInt8) (w : World) (hl : l.length < 9223372036854775808) (hv : v.length < 9223372036854775808) (hT : Ts w q l) :
    Calls Tryd.prog 25 #[.slice q l.length cap, .agg #[.int .i64 t, .string ⟨v.toArray⟩]] w fun e w' => e = .returned (.int .i64 (fitsE l (t, v))) ∧ Below w.heap.size w w' := by
  have HT := hid (hT.on (ball w (.cells #[.int .i64 t, .string ⟨v.toArray⟩] 64)))
  have HB0 := hid (ball w (.cells #[.int .i64 t, .string ⟨v.toArray⟩] 64))
  clear hT
  by_cases ht : TagOk t
  · obtain ⟨t1, t2, t3, t4, t5, t6⟩ := ht
    have ht : TagOk t := ⟨t1, t2, t3, t4, t5, t6⟩
    have u1 : ¬ (t < 1) := by omega
    have u2 : ¬ (9999 < t) := by omega
    have u3 : (t == 8) = false := by simpa using t3
    have u4 : (t == 9) = false := by simpa using t4
    have u5 : (t == 10) = false := by simpa using t5
    have u6 : (t == 35) = false := by simpa using t6
    have VA := hid (value_any l q cap t _ hl HT.out)
    cases hs : (val? l t).isSome with
    | true =>
      have e : fitsE l (t, v) = 30 := by unfold fitsE; rw [if_neg (by simpa using ht), if_pos hs]
      rw [e]
      rw [hs] at VA
      clear e hs ht t3 t4 t5 t6
      go_enter Tryd.func25, Tryd.ntmps25
      go_wp2_with (go_at_call 40; refine VA.out.mono ?_; rintro e w1 ⟨rfl, hb⟩; have HB1 := hid (btr' HB0.out hb); clear hb)
      go_ret
      exact ⟨rfl, HB1.out⟩
    | false =>
      rw [hs] at VA
      have hN : val? l t = none := by cases h : val? l t; rfl; rw [h] at hs; cases hs
      rw [hN] at VA
      simp only [Option.getD_none] at VA
      by_cases hv2 : ValOk v
      · have e : fitsE l (t, v) = 0 := by unfold fitsE; rw [if_neg (by simpa using ht), if_neg (by rw [hs]; decide), if_neg (by simpa using hv2)]
        rw [e]
        have IV := hid (fun w => isvalue_any v w hv)
        rw [decide_eq_true hv2] at IV
        clear e hs ht t3 t4 t5 t6 hv2 hN
        go_enter Tryd.func25, Tryd.ntmps25
        go_wp2_with (first | (go_at_call 40; refine VA.out.mono ?_; rintro e w1 ⟨rfl, hb⟩; have HB1 := hid (btr' HB0.out hb); have hc1 := cell_new 1 hb rfl; clear hb) | (go_at_call 41; refine (IV.out _).mono ?_; rintro e w2 ⟨rfl, rfl⟩))
        go_ret
        exact ⟨rfl, HB1.out⟩
      · have e : fitsE l (t, v) = 31 := by unfold fitsE; rw [if_neg (by simpa using ht), if_neg (by rw [hs]; decide), if_pos (by simpa using hv2)]
        rw [e]
        have IV := hid (fun w => isvalue_any v w hv)
        rw [decide_eq_false hv2] at IV
        clear e hs ht t3 t4 t5 t6 hv2 hN
        go_enter Tryd.func25, Tryd.ntmps25
        go_wp2_with (first | (go_at_call 40; refine VA.out.mono ?_; rintro e w1 ⟨rfl, hb⟩; have HB1 := hid (btr' HB0.out hb); have hc1 := cell_new 1 hb rfl; clear hb) | (go_at_call 41; refine (IV.out _).mono ?_; rintro e w2 ⟨rfl, rfl⟩))
        go_ret
        exact ⟨rfl, HB1.out⟩
  · have e : fitsE l (t, v) = 30 := by unfold fitsE; rw [if_pos (by simpa using ht)]
    rw [e]
    clear e
    by_cases u1 : t < 1
    · go_enter Tryd.func25, Tryd.ntmps25
      go_wp2
      go_ret
      exact ⟨rfl, HB0.out⟩
    · by_cases u2 : 9999 < t
      · go_enter Tryd.func25, Tryd.ntmps25
        go_wp2
        go_ret
        exact ⟨rfl, HB0.out⟩
      · have h4 : t = 8 ∨ t = 9 ∨ t = 35 ∨ t = 10 := by unfold TagOk at ht; omega
        clear ht u1 u2
        rcases h4 with rfl | rfl | rfl | rfl
        · go_enter Tryd.func25, Tryd.ntmps25
          go_wp2
          go_ret
          exact ⟨rfl, HB0.out⟩
        · go_enter Tryd.func25, Tryd.ntmps25
          go_wp2
          go_ret
          exact ⟨rfl, HB0.out⟩
        · go_enter Tryd.func25, Tryd.ntmps25
          go_wp2
          go_ret
          exact ⟨rfl, HB0.out⟩
        · go_enter Tryd.func25, Tryd.ntmps25
          go_wp2
          go_ret
          exact ⟨rfl, HB0.out⟩
end Go.Proofs.YtolabllgnfpfaaaDoor
