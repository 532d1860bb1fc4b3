/-
  BitmapAgain's walk.
-/
import Derived.Test.YtcbfgodknonefabDoorBmW
import Derived.Laws.Tables
import Derived.Laws.Rows
namespace Go.Proofs.YtcbfgodknonefabDoor
open Go.RowKit Go.Deep Bt
set_option linter.unusedVariables false
set_option maxRecDepth 100000
set_option maxHeartbeats 2000000

theorem shr_bit (x i : Nat) (hx : x < 18446744073709551616) (b : Bool) (h : x.testBit i = b) : ∃ q : Nat, (x : Int) / 2 ^ i = (q : Int) ∧ q < 18446744073709551616 ∧ (q : Int) % 2 = (b.toNat : Int) ∧ (q : Int).tmod 2 = (b.toNat : Int) := by
  refine ⟨x / 2 ^ i, by simp, Nat.lt_of_le_of_lt (Nat.div_le_self _ _) hx, ?_⟩
  rw [Nat.testBit_eq_decide_div_mod_eq] at h
  have : x / 2 ^ i % 2 = b.toNat := by
    subst h
    by_cases e : x / 2 ^ i % 2 = 1
    · rw [e]; rfl
    · rw [show x / 2 ^ i % 2 = 0 by omega]; rfl
  obtain ⟨q, hq⟩ : ∃ q, x / 2 ^ i = q := ⟨_, rfl⟩
  rw [hq] at this ⊢
  constructor
  · omega
  · rw [Int.tmod_eq_emod_of_nonneg (by omega)]; omega
/-- the ticks below a number. -/
def cut (S : Nat → Bool) (n : Nat) : Nat → Bool := fun x => S x && decide (x < n)
theorem cut_zero (S : Nat → Bool) : cut S 0 = emp := by funext x; unfold cut emp; simp
theorem cut_skip (S : Nat → Bool) {n m : Nat} (h : n ≤ m) (hz : ∀ x, n ≤ x → x < m → S x = false) : cut S n = cut S m := by
  funext x
  unfold cut
  by_cases a : x < n
  · have : x < m := by omega
    simp [a, this]
  · by_cases b : x < m
    · simp [hz x (by omega) b]
    · simp [a, b]
theorem cut_ins (S : Nat → Bool) (n : Nat) (hn : n < 262144) (h : S n = true) : insI (cut S n) (n : Int) = cut S (n + 1) := by
  unfold insI
  rw [if_pos (by omega), Int.toNat_natCast]
  funext x
  unfold ins cut
  by_cases e : x = n
  · subst e; simp [h]
  · have : (x < n + 1) ↔ (x < n) := by omega
    simp [e, this]
theorem insI_out (S : Nat → Bool) (x : Int) (n : Nat) (hn : 262144 ≤ n) (h : S n = false) : insI S x n = false := by
  unfold insI; split
  · unfold ins
    have : ¬ n = x.toNat := by omega
    simp [h, this]
  · exact h
theorem foldl_out (xs : List Int) (S : Nat → Bool) (n : Nat) (hn : 262144 ≤ n) (h : S n = false) : xs.foldl insI S n = false := by
  induction xs generalizing S with
  | nil => exact h
  | cons x xs ih => exact ih _ (insI_out S x n hn h)
theorem cut_all (xs : List Int) : cut (fill xs) 262144 = fill xs := by
  funext x
  unfold cut
  by_cases h : x < 262144
  · simp [h]
  · have : fill xs x = false := foldl_out xs emp x (by omega) rfl
    simp [h, this]
theorem same_self (S : Nat → Bool) : sameS S S = true := by unfold sameS; simp
theorem row_one {row : Array Value} {S : Nat → Bool} (h2 : row.size = 4161) (h3 : ∀ i, i < 4161 → row[i]? = some (.int .u64 (cellv S i : Nat))) : row.all (·.oneCell') = true := by
  rw [Array.all_eq_true]
  intro i hi
  have := h3 i (by omega)
  rw [Array.getElem?_eq_getElem hi] at this
  rw [Option.some.inj this]
  rfl
theorem info30 : (Tryd.prog.info? 30).map (·.size) = some 4161 := by kernel_rfl

theorem again (v : Value) (xs : List Int) (t : Int) (w : World) (h1 : Is w w.heap.size v xs) (hL : Laid w) (h0 : 0 < w.heap.size) (hl1 : xs.length < 9223372036854775807) :
    Calls Tryd.prog 3 #[v, .int .i64 t] w fun e w' => e = .returned (.bool true) ∧ Below w.heap.size w w' := by
  have CF := hid (filled_any v xs w h1 hL h0 hl1)
  obtain ⟨N, hN⟩ : ∃ N, w.heap.size = N := ⟨_, rfl⟩
  rw [hN] at CF h0 h1 ⊢
  have hNs : N ≤ w.heap.size := by omega
  have HL := hid (fun (w' : World) (k : Below N w w') => hL.on k h0)
  have HCA := hid (cut_all xs)
  obtain ⟨S, hS⟩ : ∃ S, fill xs = S := ⟨_, rfl⟩
  rw [hS] at CF HCA
  have hz := run_zero28
  clear hS hL hN h1
  go_enter Tryd.func3, Tryd.ntmps3
  go_wp2_with (first | (go_at_call 4; refine (CF.out).mono ?_; clear CF; rintro e w1 ⟨rfl, hb, hm⟩; have HN1 := hid hb; have HB1 := hid hm; clear hb hm))
  have lN := HB1.out.lt
  have HB2 := hid (HB1.out.same (Below.heap_alloc w1 (.cells zrow 30) N lN))
  have HO2 := hid (Bm.new w1)
  have HN2 := hid (HN1.out.alloc (by have := HN1.out.size; omega) (.cells zrow 30))
  obtain ⟨M, hM⟩ : ∃ M, w1.heap.size = M := ⟨_, rfl⟩
  rw [hM] at HO2 lN ⊢
  obtain ⟨w2, hw2⟩ : ∃ w2, w1.alloc (.cells zrow 30) = w2 := ⟨_, rfl⟩
  rw [hw2] at HB2 HO2 HN2 ⊢
  rw [← cut_zero S] at HO2
  have hNM : ¬ N = M := by omega
  clear hw2 HN1 HB1 hM hz
  have MN : M ≥ N := by have := HN2.out.size; omega
  go_loopw [8] (fun iv wr => ∃ i : Nat, i ≤ 4096 ∧ iv = .int .i64 i ∧ Hid (Below N w wr) ∧ Hid (Bm wr N S) ∧ Hid (Bm wr M (cut S (64 * i)))) (fun iv _ => 4096 - (intOf iv).toNat)
  case atStart => exact ⟨0, by omega, rfl, HN2, HB2, HO2⟩
  case round =>
    clear HN2 HB2 HO2
    obtain ⟨i, hi, rfl, HN3, HB3, HO3⟩ := hrel
    by_cases hlt : i < 4096
    · have i0 : (0 : Int) ≤ (i : Int) := by omega
      have i1 : (i : Int) < 4096 := by omega
      have CW := hid (low_any N S (i : Int) wr HB3.out)
      rw [show loI S (i : Int) = lo S i by unfold loI; rw [if_pos (by omega), Int.toNat_natCast]] at CW
      obtain ⟨X, hX⟩ : ∃ X, lo S i = X := ⟨_, rfl⟩
      rw [hX] at CW
      have X1 : X < 18446744073709551616 := by rw [← hX]; exact lo_lt S i
      have HX := hid hX
      clear hX
      go_wp2_with (first | (go_at_call 5; refine (CW.out).mono ?_; clear CW; rintro e w5 ⟨rfl, rfl⟩))
      go_loopw [10] (fun kv wr => ∃ k : Nat, k ≤ 64 ∧ kv = .int .i64 k ∧ Hid (Below N w wr) ∧ Hid (Bm wr N S) ∧ Hid (Bm wr M (cut S (64 * i + k)))) (fun kv _ => 64 - (intOf kv).toNat)
      case atStart => exact ⟨0, by omega, rfl, HN3, HB3, HO3⟩
      case round =>
        clear HN3 HB3 HO3
        obtain ⟨k, hk, rfl, HN4, HB4, HO4⟩ := hrel
        by_cases hz : X = 0
        · subst hz
          have e : cut S (64 * i + k) = cut S (64 * (i + 1)) := cut_skip S (by omega) (fun x h1 h2 => by
            have := (lo_zero S i).1 HX.out (x % 64) (by omega)
            rwa [show 64 * i + x % 64 = x by omega] at this)
          rw [e] at HO4
          clear e
          by_cases hk2 : k < 64
          · have k1 : (k : Int) < 64 := by omega
            go_wp2_with fail
            go_roundw
            case rel => exact ⟨i + 1, by omega, by go_num, HN4, HB4, HO4⟩
            case measure => simp [intOf]; omega
          · have k1 : ¬ ((k : Int) < 64) := by omega
            go_wp2_with fail
            go_roundw
            case rel => exact ⟨i + 1, by omega, by go_num, HN4, HB4, HO4⟩
            case measure => simp [intOf]; omega
        · have z1 : ((X : Int) != 0) = true := by simp [hz]
          by_cases hk2 : k < 64
          · have k0 : (0 : Int) ≤ (k : Int) := by omega
            have k1 : (k : Int) < 64 := by omega
            have k3 : (k : Int) ≤ 64 := by omega
            have k4 : ((k : Int)).toNat = k := by omega
            have hbit := lo_bit S i k hk2
            rw [HX.out] at hbit
            cases hb : S (64 * i + k) with
            | false =>
              rw [hb] at hbit
              obtain ⟨q, q1, q2, q3, q4⟩ := shr_bit X k X1 false hbit
              simp only [Bool.toNat_false, Int.ofNat_zero] at q3 q4
              have e : cut S (64 * i + k) = cut S (64 * i + (k + 1)) := cut_skip S (by omega) (fun x h1 h2 => by
                have : x = 64 * i + k := by omega
                rw [this]; exact hb)
              rw [e] at HO4
              clear e hbit hb
              go_wp2_with fail
              go_roundw
              case rel => exact ⟨k + 1, by omega, by go_num, HN4, HB4, HO4⟩
              case measure => simp [intOf]; omega
            | true =>
              rw [hb] at hbit
              obtain ⟨q, q1, q2, q3, q4⟩ := shr_bit X k X1 true hbit
              simp only [Bool.toNat_true, Int.ofNat_one] at q3 q4
              obtain ⟨n, hn⟩ : ∃ n, 64 * i + k = n := ⟨_, rfl⟩
              have CS := hid (fun (w : World) (hB : Bm w M (cut S n)) => set_any M (cut S n) (n : Int) w hB)
              rw [cut_ins S n (by omega) (by rw [← hn]; exact hb)] at CS
              rw [hn] at HO4
              have en : 64 * (i : Int) + (k : Int) = (n : Int) := by omega
              have n1 : n < 262144 := by omega
              have e2 : n + 1 = 64 * i + (k + 1) := by omega
              clear hbit hb hn
              go_wp2_with (first | (go_at_call 6; refine (CS.out _ HO4.out).mono ?_; clear CS; rintro e w6 ⟨rfl, hk6, hm6⟩; have HN6 := hid (HN4.out.trans (hk6.below MN (Nat.le_trans hNs HN4.out.size))); have HB6 := hid (HB4.out.off hk6 hNM); have HO6 := hid hm6; clear hk6 hm6))
              go_roundw
              case rel => exact ⟨k + 1, by omega, by go_num, HN6, HB6, by rw [← e2]; exact HO6⟩
              case measure => simp [intOf]; omega
          · have k1 : ¬ ((k : Int) < 64) := by omega
            have e : 64 * i + k = 64 * (i + 1) := by omega
            rw [e] at HO4
            clear e
            go_wp2_with fail
            go_roundw
            case rel => exact ⟨i + 1, by omega, by go_num, HN4, HB4, HO4⟩
            case measure => simp [intOf]; omega
    · have i1 : ¬ ((i : Int) < 4096) := by omega
      have e : 64 * i = 262144 := by omega
      rw [e, HCA.out] at HO3
      obtain ⟨row, r1, r2, r3⟩ := HB3.out
      have R1 := row_one r2 r3
      have I1 : (Tryd.prog.info? 30).map (·.size) = some row.size := by rw [r2]; exact info30
      have Z1 : zrow.size = row.size := by rw [r2]; exact Array.size_replicate
      have lN := HB3.out.lt
      have lM := HO3.out.lt
      have al : (wr.alloc (.cells zrow 30)).heap[wr.heap.size]? = some (.cells zrow 30 (0, 0)) := World.alloc_heap_new _ _
      have W1 : ((wr.alloc (.cells zrow 30)).setRow wr.heap.size row).heap[wr.heap.size]? = some (.cells row 30 (0, 0)) := setRow_heap _ _ _ _ _ _ al
      have HC4 := hid (show Bm ((wr.alloc (.cells zrow 30)).setRow wr.heap.size row) wr.heap.size S from ⟨row, W1, r2, r3⟩)
      have W2 : ∀ j, j < wr.heap.size → ((wr.alloc (.cells zrow 30)).setRow wr.heap.size row).heap[j]? = wr.heap[j]? := fun j hj => by
        rw [setRow_other _ _ _ _ (by omega), Below.heap_alloc _ _ _ hj]
      have B4 : Below wr.heap.size wr ((wr.alloc (.cells zrow 30)).setRow wr.heap.size row) := ⟨rfl, rfl, rfl, by simp, W2⟩
      have HN4 := hid (chainB HN3.out hNs B4)
      have HB4 := hid (HB3.out.on B4)
      have HO4 := hid (HO3.out.on B4)
      have AL := hid al
      have RR1 := hid r1
      have RO := hid R1
      have II := hid I1
      have ZZ := hid Z1
      clear r1 r2 r3 R1 I1 Z1 al W1 W2 B4 e
      have CL1 := hid (fun (w : World) (hB : Bm w M S) (hL : Laid w) => len_any M S w hB hL)
      have CL2 := hid (fun (w : World) (hB : Bm w N S) (hL : Laid w) => len_any N S w hB hL)
      have CT1 := hid (fun (w : World) (hB : Bm w M S) => top_any M S w hB)
      have CT2 := hid (fun (w : World) (hB : Bm w N S) => top_any N S w hB)
      have CE1 := hid (fun (w : World) (hB : Bm w M S) (hC : Bm w N S) => equal_any M N S S w hB hC)
      have CE2 := hid (fun (C : Nat) (w : World) (hB : Bm w C S) (hC : Bm w M S) => equal_any C M S S w hB hC)
      rw [same_self] at CE1 CE2
      have CH1 := hid (fun (w : World) (hB : Bm w N S) => has_any N S t w hB)
      have CH2 := hid (fun (C : Nat) (w : World) (hB : Bm w C S) => has_any C S t w hB)
      have CD := hid (fun (w : World) (hB : Bm w N S) => clear_any N S t w hB)
      have CS := hid (fun (w : World) (hB : Bm w N S) => set_any N S t w hB)
      obtain ⟨T, hT⟩ : ∃ T, tp S = T := ⟨_, rfl⟩
      rw [hT] at CT1 CT2
      obtain ⟨L, hLn⟩ : ∃ L, len S = L := ⟨_, rfl⟩
      rw [hLn] at CL1 CL2
      clear hT hLn
      have hz := run_zero28
      go_wp2_with (first
        | (refine wpList_load_row (by rfl) 30 (.tmp 49) (by rfl) N (by rfl) 30 row (0, 0) _ RR1.out Tryd.underlying30 rfl II.out ?_)
        | (refine wpList_store_row (by rfl) 30 (.tmp 11) (.tmp 50) (by rfl) wr.heap.size row (by rfl) (by rfl) 30 zrow AL.out II.out ZZ.out RO.out ?_)
        | (go_at_call 7; refine (CE1.out _ HO4.out HB4.out).mono ?_; clear CE1; rintro e w5 ⟨rfl, hb⟩; have HN5 := hid (chainB HN4.out hNs hb); have HB5 := hid (HB4.out.on hb); have HO5 := hid (HO4.out.on hb); have HC5 := hid (HC4.out.on hb); clear hb HN4 HB4 HO4 HC4)
        | (go_at_call 8; refine (CL1.out _ HO5.out (HL.out _ HN5.out)).mono ?_; clear CL1; rintro e w6 ⟨rfl, hb⟩; have HN6 := hid (chainB HN5.out hNs hb); have HB6 := hid (HB5.out.on hb); have HO6 := hid (HO5.out.on hb); have HC6 := hid (HC5.out.on hb); clear hb HN5 HB5 HO5 HC5)
        | (go_at_call 8; refine (CL2.out _ HB6.out (HL.out _ HN6.out)).mono ?_; clear CL2; rintro e w7 ⟨rfl, hb⟩; have HN7 := hid (chainB HN6.out hNs hb); have HB7 := hid (HB6.out.on hb); have HO7 := hid (HO6.out.on hb); have HC7 := hid (HC6.out.on hb); clear hb HN6 HB6 HO6 HC6)
        | (go_at_call 9; refine (CT1.out _ HO7.out).mono ?_; clear CT1; rintro e w8 ⟨rfl, rfl⟩)
        | (go_at_call 9; refine (CT2.out _ HB7.out).mono ?_; clear CT2; rintro e w9 ⟨rfl, rfl⟩)
        | (go_at_call 10; refine (CH1.out _ HB7.out).mono ?_; clear CH1; rintro e w10 ⟨rfl, hb⟩; have HN8 := hid (chainB HN7.out hNs hb); have HB8 := hid (HB7.out.on hb); have HO8 := hid (HO7.out.on hb); have HC8 := hid (HC7.out.on hb); clear hb HN7 HB7 HO7 HC7)
        | (go_at_call 11; refine (CD.out _ HB8.out).mono ?_; clear CD; rintro e w11 ⟨rfl, hk9, hm9⟩; have HN9 := hid (chain HN8.out hNs hk9); have HO9 := hid (HO8.out.off hk9 (fun e => hNM e.symm)); have HC9 := hid (HC8.out.off hk9 (by omega)); clear hk9 hm9 HN8 HB8 HO8 HC8)
        | (go_at_call 6; refine (CS.out _ HB8.out).mono ?_; clear CS; rintro e w11 ⟨rfl, hk9, hm9⟩; have HN9 := hid (chain HN8.out hNs hk9); have HO9 := hid (HO8.out.off hk9 (fun e => hNM e.symm)); have HC9 := hid (HC8.out.off hk9 (by omega)); clear hk9 hm9 HN8 HB8 HO8 HC8)
        | (go_at_call 7; refine (CE2.out _ _ HC9.out HO9.out).mono ?_; clear CE2; rintro e w12 ⟨rfl, hb⟩; have HN10 := hid (chainB HN9.out hNs hb); have HC10 := hid (HC9.out.on hb); clear hb HN9 HO9 HC9)
        | (go_at_call 10; refine (CH2.out _ _ HC10.out).mono ?_; clear CH2; rintro e w13 ⟨rfl, hb⟩; have HN11 := hid (chainB HN10.out hNs hb); clear hb HN10 HC10))
      all_goals
        go_ret
        exact ⟨rfl, HN11.out⟩
end Go.Proofs.YtcbfgodknonefabDoor
