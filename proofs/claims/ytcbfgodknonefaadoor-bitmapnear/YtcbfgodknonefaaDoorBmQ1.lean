/-
  BitmapNear's walk, a way.
-/
import Derived.Test.YtcbfgodknonefaaDoorBmQA
namespace Go.Proofs.YtcbfgodknonefaaDoor
open Go.RowKit Go.Deep Bt
set_option linter.unusedVariables false
set_option maxRecDepth 100000
set_option maxHeartbeats 2000000

theorem near_sn (u : Nat) (v : Value) (xs : List Int) (t : Int) (w : World) (h1 : Is w w.heap.size v xs) (hL : Laid w) (h0 : 0 < w.heap.size) (hl1 : xs.length < 9223372036854775807) (ht1 : -9223372036854775808 ≤ t) (ht2 : t ≤ 9223372036854775807) (hxw : ∀ x ∈ xs, -9223372036854775808 ≤ x ∧ x < 9223372036854775808)
    (ha : Abv (fill xs) t (some u)) (hb : Blw (fill xs) t none) :
    Calls Tryd.prog 6 #[v, .int .i64 t] w fun e w' => e = .returned (.bool true) ∧ Below w.heap.size w w' := by
  have CF := hid (filled_any v xs w h1 hL h0 hl1)
  obtain ⟨pv, cap, rfl⟩ := h1.form
  obtain ⟨N, hN⟩ : ∃ N, w.heap.size = N := ⟨_, rfl⟩
  rw [hN] at CF h0 h1 ⊢
  have hNs : N ≤ w.heap.size := by omega
  have HI := hid (fun (w' : World) (k : Below N w w') => h1.on k (Nat.le_refl _))
  have HL := hid (fun (w' : World) (k : Below N w w') => hL.on k h0)
  have HM := hid (fun (n : Nat) => fill_mem xs n)
  obtain ⟨S, hS⟩ : ∃ S, fill xs = S := ⟨_, rfl⟩
  rw [hS] at CF HM ha hb
  clear hS hL hN h1 hxw ht1 ht2
  have CA := hid (fun (w : World) (hB : Bm w N S) (hL : Laid w) => above_at N S t _ ha w hB hL)
  have CB := hid (fun (w : World) (hB : Bm w N S) => below_at N S t _ hb w hB)
  simp only [Option.getD_some, Option.isSome_some] at CA
  simp only [Option.getD_none, Option.isSome_none] at CB
  have CT := hid (fun (w : World) (hB : Bm w N S) => has_any N S t w hB)
  have CU := hid (fun (w : World) (hB : Bm w N S) => has_any N S (u : Int) w hB)
  rw [hasI_nat S u ha.1, ha.2.1] at CU
  have CV := hid (fun (w : World) (hB : Bm w N S) => below_at N S (u : Int) (some u) ⟨ha.1, ha.2.1, Int.le_refl _, fun x p1 p2 _ => by omega⟩ w hB)
  simp only [Option.getD_some, Option.isSome_some] at CV
  have u1 : t ≤ (u : Int) := ha.2.2.1
  have EA := hid (fun (n : Nat) (h : S n = true) (hn : t ≤ (n : Int)) => (show (u : Int) ≤ (n : Int) by
    by_cases c : n < u
    · have := ha.2.2.2 n hn c; rw [h] at this; cases this
    · omega))
  have EB := hid (fun (n : Nat) (h : S n = true) (hl : n < 262144) (hn : (n : Int) ≤ t) => (show False by have := hb n hn hl; rw [h] at this; cases this))
  clear ha hb
  go_enter Tryd.func6, Tryd.ntmps6
  go_wp2_with (first | (go_at_call 21; refine (CF.out).mono ?_; clear CF; rintro e w1 ⟨rfl, hb, hm⟩; have HN1 := hid hb; have HB1 := hid hm; clear hb hm) | (go_at_call 24; refine (CA.out _ HB1.out (HL.out _ HN1.out)).mono ?_; clear CA; rintro e w2 ⟨rfl, rfl⟩) | (go_at_call 25; refine (CB.out _ HB1.out).mono ?_; clear CB; rintro e w3 ⟨rfl, rfl⟩) | (go_at_call 26; refine (CU.out _ HB1.out).mono ?_; clear CU; rintro e w4 ⟨rfl, hb⟩; have HN2 := hid (chainB HN1.out hNs hb); have HB2 := hid (HB1.out.on hb); clear hb HN1 HB1))
  go_loopw [11, 12] (fun iv _ wr => ∃ k : Nat, k ≤ xs.length ∧ iv = .int .i64 k ∧ Hid (Below N w wr) ∧ Hid (Bm wr N S)) (fun iv _ _ => xs.length - (intOf iv).toNat)
  case atStart => exact ⟨0, Nat.zero_le _, rfl, HN2, HB2⟩
  case round =>
    clear HN2 HB2
    obtain ⟨k, hk, rfl, HN4, HB4⟩ := hrel
    by_cases hlt : k < xs.length
    · obtain ⟨b, o, rfl, hb, hc⟩ := (HI.out _ HN4.out).at k hlt
      have hmem : xs[k] ∈ xs := List.getElem_mem hlt
      obtain ⟨x, hx⟩ : ∃ x, xs[k] = x := ⟨_, rfl⟩
      rw [hx] at hc hmem
      have i0 : (0 : Int) ≤ (k : Int) := by omega
      have i1 : (k : Int) < (xs.length : Int) := by omega
      by_cases hin : 0 ≤ x ∧ x < 262144
      · have n0 : 0 ≤ x := hin.1
        have n1 : x < 262144 := hin.2
        have hSx : S x.toNat = true := HM.out x.toNat (by rw [show ((x.toNat : Nat) : Int) = x by omega]; exact hmem) (by omega)
        rcases Int.lt_trichotomy x t with h | h | h
        · have h2 : x ≤ t := by omega
          exact (EB.out x.toNat hSx (by omega) (by omega)).elim
        · have h2 : x ≤ t := by omega
          have h3 : t ≤ x := by omega
          have f2 : (u : Int) ≤ x := by have := EA.out x.toNat hSx (by omega); omega
          exact (EB.out x.toNat hSx (by omega) (by omega)).elim
        · have h3 : t ≤ x := by omega
          have f2 : (u : Int) ≤ x := by have := EA.out x.toNat hSx (by omega); omega
          clear hSx hin hmem hx
          go_wp2_with fail
          go_roundw
          case rel => exact ⟨k + 1, by omega, by go_num, HN4, HB4⟩
          case measure => simp [intOf]; omega
      · by_cases hneg : x < 0
        · clear hin hmem hx
          go_wp2_with fail
          go_roundw
          case rel => exact ⟨k + 1, by omega, by go_num, HN4, HB4⟩
          case measure => simp [intOf]; omega
        · have n0 : 0 ≤ x := by omega
          have n1 : 262144 ≤ x := by omega
          clear hin hmem hx
          go_wp2_with fail
          go_roundw
          case rel => exact ⟨k + 1, by omega, by go_num, HN4, HB4⟩
          case measure => simp [intOf]; omega
    · have i1 : ¬ ((k : Int) < (xs.length : Int)) := by omega
      by_cases hh : hasI S t = true
      · have hh' := hh
        unfold hasI at hh'
        simp only [Bool.and_eq_true, decide_eq_true_eq] at hh'
        obtain ⟨⟨g1, g2⟩, g3⟩ := hh'
        have e1 : (u : Int) = t := by have := EA.out t.toNat g3 (by omega); omega
        exact (EB.out t.toNat g3 (by omega) (by omega)).elim
      · rw [show hasI S t = false by simpa using hh] at CT
        clear hh
        go_wp2_with (first | (go_at_call 25; refine (CV.out _ HB4.out).mono ?_; clear CV; rintro e w6 ⟨rfl, rfl⟩) | (go_at_call 26; refine (CT.out _ HB4.out).mono ?_; clear CT; rintro e w7 ⟨rfl, hb⟩; have HN5 := hid (chainB HN4.out hNs hb); clear hb HN4 HB4))
        go_ret
        exact ⟨rfl, HN5.out⟩
end Go.Proofs.YtcbfgodknonefaaDoor
