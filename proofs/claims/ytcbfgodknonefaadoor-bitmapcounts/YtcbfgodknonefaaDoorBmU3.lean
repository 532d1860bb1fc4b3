/-
  BitmapCounts' walk, a way.
-/
import Derived.Test.YtcbfgodknonefaaDoorBmT
namespace Go.Proofs.YtcbfgodknonefaaDoor
open Go.RowKit Go.Deep Bt
set_option linter.unusedVariables false
set_option maxRecDepth 100000
set_option maxHeartbeats 2000000

theorem counts_31 (v : Value) (xs : List Int) (a b c : Int) (w : World) (h1 : Is w w.heap.size v xs) (hL : Laid w) (h0 : 0 < w.heap.size) (hl1 : xs.length < 9223372036854775807) (ha : a < 9223372036854775808) (hb : b < 9223372036854775808) (hc : c < 9223372036854775808)
    (p1 : b < a) (r1 : a < 0) :
    Calls Tryd.prog 7 #[v, .int .i64 a, .int .i64 b, .int .i64 c] w fun e w' => e = .returned (.bool true) ∧ Below w.heap.size w w' := by
  have CF := hid (filled_any v xs w h1 hL h0 hl1)
  obtain ⟨N, hN⟩ : ∃ N, w.heap.size = N := ⟨_, rfl⟩
  rw [hN] at CF h0 h1 ⊢
  have hNs : N ≤ w.heap.size := by omega
  have HL := hid (fun (w' : World) (k : Below N w w') => hL.on k h0)
  obtain ⟨S, hS⟩ : ∃ S, fill xs = S := ⟨_, rfl⟩
  rw [hS] at CF
  have cz : ∀ w' : World, Below N w w' → 0 < w'.heap.size := fun w' k => by have := k.size; omega
  have C1 := fun (w' : World) (hB : Bm w' N S) (k : Below N w w') => count_any N S a b w' hB (HL.out w' k) (cz w' k) ha hb
  rw [show cntI S a b = 0 by unfold cntI; rw [if_pos (by omega)]] at C1
  have D1 := hid C1
  clear C1
  have C4 := fun (w' : World) (hB : Bm w' N S) (k : Below N w w') => count_any N S 0 262144 w' hB (HL.out w' k) (cz w' k) (by omega) (by omega)
  rw [show cntI S 0 262144 = ((len S : Nat) : Int) by
    rw [cntI_le S 0 262144 (by omega)]
    have e1 : ahd S 262144 = len S := rfl
    have e2 : ahd S 0 = 0 := rfl
    rw [e1, e2]; omega] at C4
  have C5 := fun (w' : World) (hB : Bm w' N S) (k : Below N w w') => len_any N S w' hB (HL.out w' k)
  obtain ⟨z, hz⟩ : ∃ z, len S = z := ⟨_, rfl⟩
  rw [hz] at C4 C5
  have D4 := hid C4
  have D5 := hid C5
  clear C4 C5 hz
  clear hS hL hN h1 cz ha hb hc hl1
  go_enter Tryd.func7, Tryd.ntmps7
  go_wp2_with (first | (go_at_call 21; refine (CF.out).mono ?_; clear CF; rintro e w1 ⟨rfl, hb, hm⟩; have HN1 := hid hb; have HB1 := hid hm; clear hb hm) | (go_at_call 27; refine (D1.out _ HB1.out HN1.out).mono ?_; clear D1; rintro e w2 ⟨rfl, hb⟩; have HN2 := hid (chainB HN1.out hNs hb); have HB2 := hid (HB1.out.on hb); clear hb HN1 HB1) | (go_at_call 27; refine (D4.out _ HB2.out HN2.out).mono ?_; clear D4; rintro e w3 ⟨rfl, hb⟩; have HN3 := hid (chainB HN2.out hNs hb); have HB3 := hid (HB2.out.on hb); clear hb HN2 HB2) | (go_at_call 23; refine (D5.out _ HB3.out HN3.out).mono ?_; clear D5; rintro e w4 ⟨rfl, hb⟩; have HN4 := hid (chainB HN3.out hNs hb); have HB4 := hid (HB3.out.on hb); clear hb HN3 HB3))
  go_ret
  exact ⟨rfl, HN4.out⟩

theorem counts_32 (v : Value) (xs : List Int) (a b c : Int) (w : World) (h1 : Is w w.heap.size v xs) (hL : Laid w) (h0 : 0 < w.heap.size) (hl1 : xs.length < 9223372036854775807) (ha : a < 9223372036854775808) (hb : b < 9223372036854775808) (hc : c < 9223372036854775808)
    (p1 : b < a) (r0 : 0 ≤ a) (r1 : 262144 ≤ a) :
    Calls Tryd.prog 7 #[v, .int .i64 a, .int .i64 b, .int .i64 c] w fun e w' => e = .returned (.bool true) ∧ Below w.heap.size w w' := by
  have CF := hid (filled_any v xs w h1 hL h0 hl1)
  obtain ⟨N, hN⟩ : ∃ N, w.heap.size = N := ⟨_, rfl⟩
  rw [hN] at CF h0 h1 ⊢
  have hNs : N ≤ w.heap.size := by omega
  have HL := hid (fun (w' : World) (k : Below N w w') => hL.on k h0)
  obtain ⟨S, hS⟩ : ∃ S, fill xs = S := ⟨_, rfl⟩
  rw [hS] at CF
  have cz : ∀ w' : World, Below N w w' → 0 < w'.heap.size := fun w' k => by have := k.size; omega
  have C1 := fun (w' : World) (hB : Bm w' N S) (k : Below N w w') => count_any N S a b w' hB (HL.out w' k) (cz w' k) ha hb
  rw [show cntI S a b = 0 by unfold cntI; rw [if_pos (by omega)]] at C1
  have D1 := hid C1
  clear C1
  have C4 := fun (w' : World) (hB : Bm w' N S) (k : Below N w w') => count_any N S 0 262144 w' hB (HL.out w' k) (cz w' k) (by omega) (by omega)
  rw [show cntI S 0 262144 = ((len S : Nat) : Int) by
    rw [cntI_le S 0 262144 (by omega)]
    have e1 : ahd S 262144 = len S := rfl
    have e2 : ahd S 0 = 0 := rfl
    rw [e1, e2]; omega] at C4
  have C5 := fun (w' : World) (hB : Bm w' N S) (k : Below N w w') => len_any N S w' hB (HL.out w' k)
  obtain ⟨z, hz⟩ : ∃ z, len S = z := ⟨_, rfl⟩
  rw [hz] at C4 C5
  have D4 := hid C4
  have D5 := hid C5
  clear C4 C5 hz
  clear hS hL hN h1 cz ha hb hc hl1
  go_enter Tryd.func7, Tryd.ntmps7
  go_wp2_with (first | (go_at_call 21; refine (CF.out).mono ?_; clear CF; rintro e w1 ⟨rfl, hb, hm⟩; have HN1 := hid hb; have HB1 := hid hm; clear hb hm) | (go_at_call 27; refine (D1.out _ HB1.out HN1.out).mono ?_; clear D1; rintro e w2 ⟨rfl, hb⟩; have HN2 := hid (chainB HN1.out hNs hb); have HB2 := hid (HB1.out.on hb); clear hb HN1 HB1) | (go_at_call 27; refine (D4.out _ HB2.out HN2.out).mono ?_; clear D4; rintro e w3 ⟨rfl, hb⟩; have HN3 := hid (chainB HN2.out hNs hb); have HB3 := hid (HB2.out.on hb); clear hb HN2 HB2) | (go_at_call 23; refine (D5.out _ HB3.out HN3.out).mono ?_; clear D5; rintro e w4 ⟨rfl, hb⟩; have HN4 := hid (chainB HN3.out hNs hb); have HB4 := hid (HB3.out.on hb); clear hb HN3 HB3))
  go_ret
  exact ⟨rfl, HN4.out⟩

theorem counts_33 (v : Value) (xs : List Int) (a b c : Int) (w : World) (h1 : Is w w.heap.size v xs) (hL : Laid w) (h0 : 0 < w.heap.size) (hl1 : xs.length < 9223372036854775807) (ha : a < 9223372036854775808) (hb : b < 9223372036854775808) (hc : c < 9223372036854775808)
    (p1 : b < a) (r0 : 0 ≤ a) (r1 : a < 262144) :
    Calls Tryd.prog 7 #[v, .int .i64 a, .int .i64 b, .int .i64 c] w fun e w' => e = .returned (.bool true) ∧ Below w.heap.size w w' := by
  have CF := hid (filled_any v xs w h1 hL h0 hl1)
  obtain ⟨N, hN⟩ : ∃ N, w.heap.size = N := ⟨_, rfl⟩
  rw [hN] at CF h0 h1 ⊢
  have hNs : N ≤ w.heap.size := by omega
  have HL := hid (fun (w' : World) (k : Below N w w') => hL.on k h0)
  obtain ⟨S, hS⟩ : ∃ S, fill xs = S := ⟨_, rfl⟩
  rw [hS] at CF
  have cz : ∀ w' : World, Below N w w' → 0 < w'.heap.size := fun w' k => by have := k.size; omega
  have C1 := fun (w' : World) (hB : Bm w' N S) (k : Below N w w') => count_any N S a b w' hB (HL.out w' k) (cz w' k) ha hb
  rw [show cntI S a b = 0 by unfold cntI; rw [if_pos (by omega)]] at C1
  have D1 := hid C1
  clear C1
  have C4 := fun (w' : World) (hB : Bm w' N S) (k : Below N w w') => count_any N S 0 262144 w' hB (HL.out w' k) (cz w' k) (by omega) (by omega)
  rw [show cntI S 0 262144 = ((len S : Nat) : Int) by
    rw [cntI_le S 0 262144 (by omega)]
    have e1 : ahd S 262144 = len S := rfl
    have e2 : ahd S 0 = 0 := rfl
    rw [e1, e2]; omega] at C4
  have C5 := fun (w' : World) (hB : Bm w' N S) (k : Below N w w') => len_any N S w' hB (HL.out w' k)
  obtain ⟨z, hz⟩ : ∃ z, len S = z := ⟨_, rfl⟩
  rw [hz] at C4 C5
  have D4 := hid C4
  have D5 := hid C5
  clear C4 C5 hz
  obtain ⟨A, hA⟩ : ∃ A : Nat, (A : Int) = a := ⟨a.toNat, by omega⟩
  have C6 := fun (w' : World) (hB : Bm w' N S) (k : Below N w w') => count_any N S 0 a w' hB (HL.out w' k) (cz w' k) (by omega) ha
  rw [show cntI S 0 a = ((cn S A : Nat) : Int) by
    rw [cntI_le S 0 a (by omega)]
    have e1 : ahd S a = cn S A := by unfold ahd; rw [← hA, Int.toNat_natCast, Nat.min_eq_left (by omega)]
    have e2 : ahd S 0 = 0 := rfl
    rw [e1, e2]; omega] at C6
  obtain ⟨r, hr⟩ := abv_ex S a
  have hr2 := abv_ats (S := S) (a := A) (r := r) (by omega) (by rw [hA]; exact hr)
  have q1 := cn_le S A
  have C7 := fun (w' : World) (hB : Bm w' N S) (k : Below N w w') => at_at N S (cn S A : Int) r hr2 w' hB (HL.out w' k) (by omega)
  have C8 := fun (w' : World) (hB : Bm w' N S) (k : Below N w w') => above_at N S a r hr w' hB (HL.out w' k)
  obtain ⟨q, hq⟩ : ∃ q : Int, ((cn S A : Nat) : Int) = q := ⟨_, rfl⟩
  rw [hq] at C6 C7
  obtain ⟨x, hx⟩ : ∃ x : Int, ((r.getD 0 : Nat) : Int) = x := ⟨_, rfl⟩
  obtain ⟨y, hy⟩ : ∃ y, r.isSome = y := ⟨_, rfl⟩
  rw [hx, hy] at C7 C8
  have D6 := hid C6
  have D7 := hid C7
  have D8 := hid C8
  clear C6 C7 C8 hq hr hr2 q1 hx hy hA
  clear hS hL hN h1 cz ha hb hc hl1
  go_enter Tryd.func7, Tryd.ntmps7
  go_wp2_with (first | (go_at_call 21; refine (CF.out).mono ?_; clear CF; rintro e w1 ⟨rfl, hb, hm⟩; have HN1 := hid hb; have HB1 := hid hm; clear hb hm) | (go_at_call 27; refine (D1.out _ HB1.out HN1.out).mono ?_; clear D1; rintro e w2 ⟨rfl, hb⟩; have HN2 := hid (chainB HN1.out hNs hb); have HB2 := hid (HB1.out.on hb); clear hb HN1 HB1) | (go_at_call 27; refine (D4.out _ HB2.out HN2.out).mono ?_; clear D4; rintro e w3 ⟨rfl, hb⟩; have HN3 := hid (chainB HN2.out hNs hb); have HB3 := hid (HB2.out.on hb); clear hb HN2 HB2) | (go_at_call 23; refine (D5.out _ HB3.out HN3.out).mono ?_; clear D5; rintro e w4 ⟨rfl, hb⟩; have HN4 := hid (chainB HN3.out hNs hb); have HB4 := hid (HB3.out.on hb); clear hb HN3 HB3) | (go_at_call 27; refine (D6.out _ HB4.out HN4.out).mono ?_; clear D6; rintro e w5 ⟨rfl, hb⟩; have HN5 := hid (chainB HN4.out hNs hb); have HB5 := hid (HB4.out.on hb); clear hb HN4 HB4) | (go_at_call 28; refine (D7.out _ HB5.out HN5.out).mono ?_; clear D7; rintro e w6 ⟨rfl, hb⟩; have HN6 := hid (chainB HN5.out hNs hb); have HB6 := hid (HB5.out.on hb); clear hb HN5 HB5) | (go_at_call 24; refine (D8.out _ HB6.out HN6.out).mono ?_; clear D8; rintro e w7 ⟨rfl, rfl⟩))
  go_ret
  exact ⟨by simp, HN6.out⟩
end Go.Proofs.YtcbfgodknonefaaDoor
