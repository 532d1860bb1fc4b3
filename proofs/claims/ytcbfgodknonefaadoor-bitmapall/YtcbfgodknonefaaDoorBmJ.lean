/-
  filled: the map of a list of numbers.
-/
import Derived.Test.YtcbfgodknonefaaDoorBmF
namespace Go.Proofs.YtcbfgodknonefaaDoor
open Go.RowKit Go.Deep Bt
set_option linter.unusedVariables false
set_option maxRecDepth 100000
set_option maxHeartbeats 2000000

/-- a slice of whole numbers. -/
def Is (w : World) (base : Nat) (v : Value) (xs : List Int) : Prop :=
  (xs = [] ∧ ∃ p cap, v = .slice p 0 cap) ∨ ∃ b o cap, v = .slice (some ⟨b, o, none⟩) xs.length cap ∧ b < base ∧ ∀ i (h : i < xs.length), w.cell? ⟨b, o + i, none⟩ = some (.int .i64 xs[i])
theorem Is.on {w w' : World} {base n : Nat} {v : Value} {xs : List Int} (h : Is w base v xs) (k : Below n w w') (hn : base ≤ n) : Is w' base v xs := by
  rcases h with h | ⟨b, o, cap, e, hb, hc⟩
  · exact Or.inl h
  · exact Or.inr ⟨b, o, cap, e, hb, fun i hi => by rw [k.cell (p := ⟨b, o + i, none⟩) (by show b < n; omega)]; exact hc i hi⟩

theorem cn_ins (S : Nat → Bool) (k n : Nat) : cn (ins S k) n = cn S n + if k < n ∧ S k = false then 1 else 0 := by
  induction n with
  | zero => simp [cn]
  | succ n ih =>
    unfold cn
    rw [ih]
    by_cases e : n = k
    · subst e
      have h1 : ins S n n = true := by unfold ins; simp
      rw [h1, if_neg (by omega)]
      cases hS : S n with
      | true => simp
      | false => simp
    · have h1 : ins S k n = S n := by unfold ins; simp [e]
      rw [h1]
      by_cases h2 : k < n
      · have h3 : k < n + 1 := by omega
        simp only [h2, h3, true_and]; omega
      · have h3 : ¬ k < n + 1 := by omega
        simp only [h2, h3, false_and, if_false]; omega
theorem cn_emp (n : Nat) : cn emp n = 0 := by
  induction n with
  | zero => rfl
  | succ n ih => unfold cn; rw [ih]; rfl
def S1 : Nat → Bool := ins emp 3
def S2 : Nat → Bool := ins S1 262143
def S3 : Nat → Bool := del S2 3
theorem s1_at : S1 262143 = false := by decide
theorem s2_at : S2 3 = true := by decide
theorem s2_at' : S2 262143 = true := by decide
theorem s3_at : S3 262143 = true := by decide
theorem s4 : del S3 262143 = emp := by
  funext x
  unfold S3 S2 S1 del ins emp
  by_cases a : x = 3 <;> by_cases b : x = 262143 <;> simp [a, b]
theorem tp_s2 : tp S2 = 9223372036854775809 := by
  unfold S2 S1
  rw [tp_ins _ _ (by omega), tp_ins _ _ (by omega), tp_emp]
  decide
theorem len_s2 : len S2 = 2 := by
  unfold len S2 S1
  rw [cn_ins, cn_ins, cn_emp]
  rfl
/-- the set of a list. -/
def fill (xs : List Int) : Nat → Bool := xs.foldl insI emp
theorem fill_snoc (xs : List Int) (x : Int) : fill (xs ++ [x]) = insI (fill xs) x := by unfold fill; rw [List.foldl_append]; rfl

theorem Is.form {w : World} {base : Nat} {v : Value} {xs : List Int} (h : Is w base v xs) : ∃ p cap, v = .slice p xs.length cap := by
  rcases h with ⟨rfl, p, cap, e⟩ | ⟨b, o, cap, e, _⟩
  · exact ⟨p, cap, e⟩
  · exact ⟨_, _, e⟩
theorem Is.at {w : World} {base : Nat} {p : Option Addr} {n cap : Nat} {xs : List Int} (h : Is w base (.slice p n cap) xs) (k : Nat) (hk : k < xs.length) : ∃ b o, p = some ⟨b, o, none⟩ ∧ b < base ∧ w.cell? ⟨b, o + k, none⟩ = some (.int .i64 xs[k]) := by
  rcases h with ⟨rfl, _⟩ | ⟨b, o, cap, e, hb, hc⟩
  · simp at hk
  · simp at e
    exact ⟨b, o, e.1, hb, hc k hk⟩
theorem chain {N : Nat} {w u u' : World} (h : Below N w u) (hN : N ≤ w.heap.size) (k : Ko N u u') : Below N w u' := h.trans (k.below (Nat.le_refl _) (Nat.le_trans hN h.size))
theorem chainB {N : Nat} {w u u' : World} (h : Below N w u) (hN : N ≤ w.heap.size) (k : Below u.heap.size u u') : Below N w u' := h.trans (k.mono (Nat.le_trans hN h.size))
theorem new_in {w : World} {N : Nat} (h : w.heap.size = N) (o : Obj) : Below N w (w.alloc o) := by rw [← h]; exact (Below.refl _ w).alloc (Nat.le_refl _) _
theorem filled_any (v : Value) (xs : List Int) (w : World) (hI : Is w w.heap.size v xs) (hL : Laid w) (h0 : 0 < w.heap.size) (hl : xs.length < 9223372036854775807) :
    Calls Tryd.prog 21 #[v] w fun e w' => e = .returned (.tuple #[.pointer (some ⟨w.heap.size, 0, none⟩), .bool true]) ∧ Below w.heap.size w w' ∧ Bm w' w.heap.size (fill xs) := by
  obtain ⟨pv, cap, rfl⟩ := hI.form
  have HB0 := hid (Bm.new w)
  have HN0 := hid (new_in rfl (.cells zrow 28) : Below w.heap.size w (w.alloc (.cells zrow 28)))
  obtain ⟨N, hN⟩ : ∃ N, w.heap.size = N := ⟨_, rfl⟩
  rw [hN] at HB0 HN0 hI h0 ⊢
  have HI := hid (fun (w' : World) (k : Below N w w') => hI.on k (Nat.le_refl _))
  have HL := hid (fun (w' : World) (k : Below N w w') => hL.on k h0)
  have CA := hid (fun (w : World) (hB : Bm w N emp) => set_new N emp 3 w hB (by omega) rfl)
  have CB := hid (fun (w : World) (hB : Bm w N S1) => set_new N S1 262143 w hB (by omega) s1_at)
  have CC := hid (fun (w : World) (hB : Bm w N S2) => set_any N S2 3 w hB)
  rw [show setI S2 3 = false from by decide, show insI S2 3 = S2 from ins_there S2 3 s2_at] at CC
  have CD := hid (fun (w : World) (hB : Bm w N S2) => clear_any N S2 3 w hB)
  rw [show hasI S2 3 = true from by decide, show delI S2 3 = S3 from rfl] at CD
  have CE := hid (fun (w : World) (hB : Bm w N S3) => clear_any N S3 262143 w hB)
  rw [show hasI S3 262143 = true from by decide, show delI S3 262143 = emp from s4] at CE
  have CT := hid (fun (w : World) (hB : Bm w N S2) => top_any N S2 w hB)
  rw [tp_s2] at CT
  have CU := hid (fun (w : World) (hB : Bm w N emp) => top_any N emp w hB)
  rw [tp_emp] at CU
  have CL := hid (fun (w : World) (hB : Bm w N S2) (hL : Laid w) => len_any N S2 w hB hL)
  rw [len_s2] at CL
  have hz := run_zero28
  clear hL hI
  go_enter Tryd.func21, Tryd.ntmps21
  have hNs : N ≤ w.heap.size := by omega
  go_wp2_with (first
    | (go_at_call 11; refine (CA.out _ HB0.out).mono ?_; clear CA; rintro e w1 ⟨rfl, hk, hm⟩; have HN1 := hid (chain HN0.out hNs hk); have HB1 := hid hm; clear hk hm HN0 HB0)
    | (go_at_call 11; refine (CB.out _ HB1.out).mono ?_; clear CB; rintro e w2 ⟨rfl, hk, hm⟩; have HN2 := hid (chain HN1.out hNs hk); have HB2 := hid hm; clear hk hm HN1 HB1)
    | (go_at_call 11; refine (CC.out _ HB2.out).mono ?_; clear CC; rintro e w3 ⟨rfl, hk, hm⟩; have HN3 := hid (chain HN2.out hNs hk); have HB3 := hid hm; clear hk hm HN2 HB2)
    | (go_at_call 19; refine (CT.out _ HB3.out).mono ?_; clear CT; rintro e w4 ⟨rfl, rfl⟩)
    | (go_at_call 23; refine (CL.out _ HB3.out (HL.out _ HN3.out)).mono ?_; clear CL; rintro e w5 ⟨rfl, hb⟩; have HN5 := hid (chainB HN3.out hNs hb); have HB5 := hid (HB3.out.on hb); clear hb HN3 HB3)
    | (go_at_call 13; refine (CD.out _ HB5.out).mono ?_; clear CD; rintro e w6 ⟨rfl, hk, hm⟩; have HN6 := hid (chain HN5.out hNs hk); have HB6 := hid hm; clear hk hm HN5 HB5)
    | (go_at_call 13; refine (CE.out _ HB6.out).mono ?_; clear CE; rintro e w7 ⟨rfl, hk, hm⟩; have HN7 := hid (chain HN6.out hNs hk); have HB7 := hid hm; clear hk hm HN6 HB6)
    | (go_at_call 19; refine (CU.out _ HB7.out).mono ?_; clear CU; rintro e w8 ⟨rfl, rfl⟩))
  go_loopw [5] (fun iv wr => ∃ k : Nat, k ≤ xs.length ∧ iv = .int .i64 k ∧ Hid (Below N w wr) ∧ Hid (Bm wr N (fill (xs.take k)))) (fun iv _ => xs.length - (intOf iv).toNat)
  case atStart => exact ⟨0, Nat.zero_le _, rfl, HN7, HB7⟩
  case round =>
    obtain ⟨k, hk, rfl, HN8, HB8⟩ := hrel
    by_cases hlt : k < xs.length
    · obtain ⟨b, o, rfl, hb, hc⟩ := (HI.out _ HN8.out).at k hlt
      obtain ⟨x, hx⟩ : ∃ x, xs[k] = x := ⟨_, rfl⟩
      rw [hx] at hc
      have i0 : (0 : Int) ≤ (k : Int) := by omega
      have i1 : (k : Int) < (xs.length : Int) := by omega
      have CS := hid (fun (w : World) (hB : Bm w N (fill (xs.take k))) => set_any N (fill (xs.take k)) x w hB)
      have e : insI (fill (xs.take k)) x = fill (xs.take (k + 1)) := by
        rw [List.take_succ_eq_append_getElem hlt, fill_snoc, hx]
      rw [e] at CS
      clear e hx
      go_wp2_with (go_at_call 11; refine (CS.out _ HB8.out).mono ?_; rintro e w9 ⟨rfl, hk2, hm⟩; have HN9 := hid (chain HN8.out hNs hk2); have HB9 := hid hm; clear hk2 hm)
      go_roundw
      case rel => exact ⟨k + 1, by omega, by go_num, HN9, HB9⟩
      case measure => simp [intOf]; omega
    · have e : xs.take k = xs := List.take_of_length_le (by omega)
      rw [e] at HB8
      have i1 : ¬ ((k : Int) < (xs.length : Int)) := by omega
      clear e
      go_wp2_with fail
      go_ret2
      exact ⟨rfl, HN8.out, HB8.out⟩
end Go.Proofs.YtcbfgodknonefaaDoor
