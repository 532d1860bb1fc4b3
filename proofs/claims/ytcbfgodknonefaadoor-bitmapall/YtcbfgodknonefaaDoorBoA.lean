/-
  Without, Clone, same, at.
-/
import Derived.Test.YtcbfgodknonefaaDoorBnP
namespace Go.Proofs.YtcbfgodknonefaaDoor
open Go.RowKit Go.Deep Bt
set_option linter.unusedVariables false
set_option maxRecDepth 100000
set_option maxHeartbeats 2000000

theorem ins_del (S : Nat → Bool) (k : Nat) (h : S k = true) : ins (del S k) k = S := by
  funext x
  unfold ins del
  by_cases e : x = k
  · subst e; simp [h]
  · simp [e]
theorem del_self (S : Nat → Bool) (k : Nat) : del S k k = false := by unfold del; simp
theorem list_cut (m : List Int) (a : Nat) (x : Int) (h : a ≤ m.length) : m = (m.take a ++ x :: m.drop a).take a ++ (m.take a ++ x :: m.drop a).drop (a + 1) := by
  rw [List.take_left' (by rw [List.length_take]; omega), show List.take a m ++ x :: List.drop a m = (List.take a m ++ [x]) ++ List.drop a m by simp, List.drop_left' (by rw [List.length_append, List.length_take]; simp; omega)]
  simp
theorem tl_del (S : Nat → Bool) (k : Nat) (hk : k < 262144) (hS : S k = true) : tl (del S k) = (tl S).take (ahd S (k : Int)) ++ (tl S).drop (ahd S (k : Int) + 1) ∧ ahd S (k : Int) < (tl S).length := by
  have h1 := tl_ins (del S k) k hk (del_self S k)
  rw [ins_del S k hS] at h1
  have ha : ahd (del S k) (k : Int) ≤ (tl (del S k)).length := by rw [tl_len]; exact ahd_len _ _
  generalize hA : ahd (del S k) (k : Int) = a at h1 ha
  have hlen : (tl S).length = (tl (del S k)).length + 1 := by rw [h1]; simp; omega
  have hget : (tl S)[a]'(by omega) = (k : Int) := by
    have : (tl S)[a]? = some (k : Int) := by rw [h1, List.getElem?_append_right (by rw [List.length_take]; omega), List.length_take, Nat.min_eq_left ha]; simp
    rw [List.getElem?_eq_getElem (by omega)] at this
    exact Option.some.inj this
  obtain ⟨u, e1, _, _, e2⟩ := tl_get S a (by omega)
  rw [hget] at e1
  have hu : u = k := by omega
  subst hu
  have e3 : ahd S (u : Int) = a := by unfold ahd; rw [Int.toNat_natCast, Nat.min_eq_left (by omega)]; exact e2
  rw [e3]
  refine ⟨?_, by omega⟩
  rw [h1]
  exact list_cut _ _ _ ha
theorem delI_none (S : Nat → Bool) (x : Int) (h : hasI S x = false) : delI S x = S := by
  unfold delI
  by_cases hr : 0 ≤ x ∧ x < 262144
  · rw [if_pos hr]
    obtain ⟨k, rfl⟩ : ∃ k : Nat, x = k := ⟨x.toNat, by omega⟩
    rw [hasI_nat S k (by omega)] at h
    rw [Int.toNat_natCast]
    exact del_none S k h
  · rw [if_neg hr]
theorem without_no (p : Option Addr) (cap : Nat) (S : Nat → Bool) (l : List Int) (hS : Tl S l) (n : Int) (w : World) (hc : Lr w p l) (hs : hasI S n = false) :
    Calls Tryd.prog 12 #[.slice p l.length cap, .int .i64 n] w fun e w' => e = .returned (.tuple #[.slice p l.length cap, .bool false]) ∧ Below w.heap.size w w' := by
  have C := hid (place_any p cap S l hS n w hc)
  obtain ⟨A, hA⟩ : ∃ A, ahd S n = A := ⟨_, rfl⟩
  rw [hA, hs] at C
  obtain ⟨L, hLL⟩ : ∃ L, l.length = L := ⟨_, rfl⟩
  rw [hLL] at C ⊢
  clear hc hS hs hA hLL
  go_enter Tryd.func12, Tryd.ntmps12
  go_wp2_with (go_at_call 29; refine (C.out).mono ?_; rintro e w' ⟨rfl, hb⟩; have HB := hid hb; clear hb)
  go_ret2
  exact ⟨rfl, HB.out⟩
theorem without_some (g0 cap : Nat) (S : Nat → Bool) (l : List Int) (hS : Tl S l) (k : Nat) (w : World) (hc : Lr w (some ⟨g0, 0, none⟩) l) (hcap : l.length ≤ cap) (hk : k < 262144) (hk2 : S k = true) (hlt : ahd S (k : Int) < l.length) :
    Calls Tryd.prog 12 #[.slice (some ⟨g0, 0, none⟩) l.length cap, .int .i64 k] w fun e w' => ∃ g' c', e = .returned (.tuple #[.slice (some ⟨g', 0, none⟩) (l.length - 1) c', .bool true]) ∧ (w.heap.size ≤ g' ∧ g' < w'.heap.size ∧ l.length - 1 ≤ c') ∧ Cs w' g' (l.take (ahd S (k : Int)) ++ l.drop (ahd S (k : Int) + 1)) ∧ Below w.heap.size w w' := by
  have C := place_any (some ⟨g0, 0, none⟩) cap S l hS (k : Int) w hc
  rw [hasI_nat S k hk, hk2] at C
  have ll := len_le S
  have el := hS.len
  obtain ⟨A, hA⟩ : ∃ A, ahd S (k : Int) = A := ⟨_, rfl⟩
  rw [hA] at C hlt ⊢
  have lL : l.length ≤ 262144 := by omega
  have lt : (l.take A).length = A := by rw [List.length_take]; omega
  have ld : (l.drop (A + 1)).length = l.length - (A + 1) := by rw [List.length_drop]
  obtain ⟨n, hn⟩ : ∃ n : Int, (k : Int) = n := ⟨_, rfl⟩
  rw [hn] at C ⊢
  have HCC := hid C
  have HLR := hid (fun (w' : World) (b : Below w.heap.size w w') => (show Lr w' (some ⟨g0, 0, none⟩) l from fun i hi => by
    obtain ⟨g, e, h⟩ := hc i hi
    exact ⟨g, e, by rw [b.cell (p := ⟨g, i, none⟩) (block_lt_of_cell h)]; exact h⟩))
  clear C hS hc hA hk hk2 hn el ll
  obtain ⟨L, hLL⟩ : ∃ L, l.length = L := ⟨_, rfl⟩
  rw [hLL] at HCC hlt lL ld hcap ⊢
  have HT := hid (fun (w' : World) (b : Below w.heap.size w w') => (show Ir w' (.slice (some ⟨g0, 0, none⟩) A cap) (l.take A) from lr_take (cap := cap) (HLR.out _ b) (fun e => by cases e) A (by rw [hLL]; omega)))
  have HD := hid (fun (w' : World) (b : Below w.heap.size w w') => (show Ir w' (.slice (if cap = A + 1 then some ⟨g0, 0, none⟩ else some ⟨g0, A + 1, none⟩) (L - (A + 1)) (cap - (A + 1))) (l.drop (A + 1)) from lr_dropc (HLR.out _ b) (A + 1) (by rw [hLL]; omega) (by rw [hLL]; exact hcap) hLL))
  have wA : IntKind.i64.wrap ((A : Int) + 1) = ((A + 1 : Nat) : Int) := by simp [IntKind.wrap, IntKind.bits, IntKind.signed]; omega
  obtain ⟨A1, hA1⟩ : ∃ x, A + 1 = x := ⟨_, rfl⟩
  rw [hA1] at HD wA ld
  have a0 : (0 : Int) ≤ (A : Int) := by omega
  have a1 : (A : Int) ≤ (L : Int) := by omega
  have a2 : (A : Int) ≤ (cap : Int) := by omega
  have a3 : (L : Int) ≤ (cap : Int) := by omega
  have b0 : (0 : Int) ≤ (A1 : Int) := by omega
  have b1 : (A1 : Int) ≤ (L : Int) := by omega
  have b2 : (A1 : Int) ≤ (cap : Int) := by omega
  have HA1 := hid hA1
  have HX := hid (show A + (L - A1) = L - 1 ∧ A ≤ 262144 ∧ L - 1 ≤ 262144 by omega)
  go_enter Tryd.func12, Tryd.ntmps12
  go_wp2_with (first | (go_at_call 29; refine (HCC.out).mono ?_; clear HCC; rintro e w1 ⟨rfl, hb⟩; have HB1 := hid hb; clear hb))
  have Bce := hid (show Below w1.heap.size w1 (w1.alloc (.cells #[] 3)).drew from ((Below.refl _ w1).alloc (Nat.le_refl _) _).drew)
  have OWN3 := hid (show (w1.alloc (.cells #[] 3)).drew.ownsRow w1.heap.size 3 1 (.slice (some ⟨w1.heap.size, 0, none⟩) 0 0) 0 (iv []) from owns_new' w1 _ (Nat.le_refl _))
  clear hA1 hlt lL
  go_region_law
    (first
    | (refine step_append_st (by rfl) (.tmp 17) (.tmp 20) (by rfl) w1.heap.size w1.heap.size 0 0 [] (by rfl) OWN3.out _ (l.take A) (by rfl) (HT.out _ (HB1.out.trans (Bce.out.mono HB1.out.size))) (by rw [lt]; have := HX.out; omega) (by simp) A (l.take A) (by rw [lt]; omega) (by simp) ?_; intro g5 c5 w5 hown5 hk5; have HO5 := hid hown5; have HB5 := hid (show Below w1.heap.size w1 w5 from Bce.out.trans hk5.2.2); clear hown5 hk5)
    | (refine step_append_st (by rfl) (.tmp 21) (.tmp 25) (by rfl) w1.heap.size g5 A c5 (l.take A) (by rfl) HO5.out _ (l.drop A1) (by rfl) (HD.out _ (HB1.out.trans (HB5.out.mono HB1.out.size))) (by rw [ld]; have := HX.out; omega) HB5.out.size (L - 1) (l.take A ++ l.drop A1) (by rw [ld]; have := HX.out; omega) rfl ?_; intro g7 c7 w7 hown7 hk7; have HO7 := hid hown7; have HB7 := hid (show Below w1.heap.size w1 w7 from HB5.out.trans hk7.2.2); clear hown7 hk7))
  all_goals go_wp2_with fail
  all_goals
    go_ret2
    obtain ⟨q1, q2, q3⟩ := owns_room HO7.out
    refine ⟨g7, c7, rfl, ⟨by have := HB1.out.size; omega, q2, by omega⟩, ?_, HB1.out.trans (HB7.out.mono HB1.out.size)⟩
    rw [HA1.out]
    exact fun j hj => ir_owns HO7.out (by rw [List.length_append, lt, ld]; exact HX.out.1.symm) j hj
theorem without_all (p : Option Addr) (cap : Nat) (S : Nat → Bool) (x : Int) (w : World) (hc : Lr w p (tl S)) (hf : Fo p (tl S).length cap) :
    Calls Tryd.prog 12 #[.slice p (tl S).length cap, .int .i64 x] w fun e w' => ∃ p' cap', e = .returned (.tuple #[.slice p' (tl (delI S x)).length cap', .bool (hasI S x)]) ∧ Lr w' p' (tl (delI S x)) ∧ Fo p' (tl (delI S x)).length cap' ∧ (p' = p ∨ ∃ g, p' = some ⟨g, 0, none⟩ ∧ w.heap.size ≤ g ∧ g < w'.heap.size) ∧ Below w.heap.size w w' := by
  cases hs : hasI S x with
  | false =>
    rw [delI_none S x hs]
    refine (without_no p cap S (tl S) (Tl.of S) x w hc hs).mono ?_
    rintro e w' ⟨rfl, hb⟩
    exact ⟨p, cap, rfl, hc.same (fun g _ hg => hb.block g hg), hf, .inl rfl, hb⟩
  | true =>
    obtain ⟨k, rfl, hk, hk2, _⟩ := ahd_has S x hs
    obtain ⟨e2, e4⟩ := tl_del S k hk2 hk
    have e : delI S (k : Int) = del S k := by unfold delI; rw [if_pos (by omega), Int.toNat_natCast]
    have e3 : (tl (del S k)).length = (tl S).length - 1 := by rw [e2]; simp; omega
    rw [e]
    rcases hf with ⟨rfl, hn, rfl⟩ | ⟨g, rfl, hcap⟩
    · omega
    · refine (without_some g cap S (tl S) (Tl.of S) k w hc hcap hk2 hk e4).mono ?_
      rintro e w' ⟨g', c', rfl, hg, hcs, hb⟩
      refine ⟨some ⟨g', 0, none⟩, c', by rw [e3], ?_, .inr ⟨g', rfl, by omega⟩, .inr ⟨g', rfl, hg.1, hg.2.1⟩, hb⟩
      intro i hi
      refine ⟨g', rfl, ?_⟩
      simp only [e2] at hi ⊢
      exact hcs i hi
theorem at_tmod (i : Int) : i.tmod 3 = if 0 ≤ i then i % 3 else -((-i) % 3) := by
  by_cases h : 0 ≤ i
  · rw [if_pos h, Int.tmod_eq_emod_of_nonneg h]
  · rw [if_neg h, ← Int.tmod_eq_emod_of_nonneg (show 0 ≤ -i by omega), Int.neg_tmod, Int.neg_neg]
theorem atf_any (i : Int) (w : World) : Calls Tryd.prog 9 #[.int .i64 i] w fun e w' => e = .returned (.int .i64 (i % 3)) ∧ w' = w := by
  have ht := at_tmod i
  obtain ⟨r, hr⟩ : ∃ r, i.tmod 3 = r := ⟨_, rfl⟩
  obtain ⟨m, hm⟩ : ∃ m, i % 3 = m := ⟨_, rfl⟩
  rw [hr] at ht
  have hb : -3 < r ∧ r < 3 := by rw [ht]; split <;> omega
  have wr : IntKind.i64.wrap r = r := by simp [IntKind.wrap, IntKind.bits, IntKind.signed]; omega
  have wr3 : IntKind.i64.wrap (r + 3) = r + 3 := by simp [IntKind.wrap, IntKind.bits, IntKind.signed]; omega
  rw [hm]
  by_cases hn : r < 0
  · have e : r + 3 = m := by rw [← hm]; split at ht <;> omega
    have HE := hid e
    clear ht hb hm e
    go_enter Tryd.func9, Tryd.ntmps9
    go_wp2_with fail
    go_ret
    exact ⟨by rw [← HE.out]; rfl, rfl⟩
  · have e : r = m := by rw [← hm]; split at ht <;> omega
    have HE := hid e
    have d : decide (r < 0) = false := by simpa using hn
    clear ht hb hm e hn
    go_enter Tryd.func9, Tryd.ntmps9
    go_wp2_with fail
    go_ret
    exact ⟨by rw [← HE.out]; rfl, rfl⟩
end Go.Proofs.YtcbfgodknonefaaDoor
