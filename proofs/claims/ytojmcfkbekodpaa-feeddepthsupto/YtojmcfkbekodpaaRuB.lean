/-
  Behind whom an order comes.
-/
import Derived.Test.YtojmcfkbekodpaaKa
namespace Go.Proofs.Ytojmcfkbekodpaa
open Go.RowKit Go.Deep
set_option linter.unusedVariables false
set_option linter.unusedSimpArgs false
set_option maxHeartbeats 1000000
set_option maxRecDepth 100000
/-- how many stand at a price or ahead of it. -/
def bhd (s p : Int) (l : LO) : Nat := (l.takeWhile fun x => !btt s p x.2.pr).length
theorem bhd_le (s p : Int) (l : LO) : bhd s p l ≤ l.length := by
  unfold bhd
  have := (List.takeWhile_prefix (fun x : Nat × Or => !btt s p x.2.pr) (l := l)).length_le
  exact this
theorem bhd_eq {s p : Int} : ∀ {l : LO} {i : Nat}, i ≤ l.length → (∀ k (hk : k < l.length), k < i → btt s p (l[k]).2.pr = false) → (∀ (hk : i < l.length), btt s p (l[i]).2.pr = true) → bhd s p l = i
  | [], i, hi, _, _ => by simp at hi; subst hi; rfl
  | x :: l, 0, hi, _, h2 => by
    have := h2 (by simp)
    simp only [List.getElem_cons_zero] at this
    simp [bhd, List.takeWhile_cons, this]
  | x :: l, i + 1, hi, h1, h2 => by
    have a := h1 0 (by simp) (by omega)
    simp only [List.getElem_cons_zero] at a
    have e := bhd_eq (s := s) (p := p) (l := l) (i := i) (by simpa using hi) (fun k hk hki => by have := h1 (k + 1) (by simpa using hk) (by omega); simpa using this) (fun hk => by have := h2 (by simpa using hk); simpa using this)
    unfold bhd at e ⊢
    simp [List.takeWhile_cons, a, e]
/-- a side stands in its order. -/
def Srt (s : Int) (l : LO) : Prop := ∀ i j (hi : i < l.length) (hj : j < l.length), i < j → btt s (l[j]).2.pr (l[i]).2.pr = false
theorem Srt.up {s : Int} {l : LO} (h : Srt s l) (p : Int) {i j : Nat} (hi : i < l.length) (hj : j < l.length) (hij : i ≤ j) (ht : btt s p (l[i]).2.pr = true) : btt s p (l[j]).2.pr = true := by
  by_cases e : i = j
  · subst e; exact ht
  · have a := h i j hi hj (by omega)
    unfold btt at *
    split at ht <;> simp_all <;> omega
theorem behind1_any (S P L : Nat) (s p : Int) (q : Option Addr) (c : Nat) (l : LO) (i : Nat) (hi : i < l.length) (w : World) (h : Li w q c l) (hS : w.cell? ⟨S, 0, none⟩ = some (.int .i64 s)) (hP : w.cell? ⟨P, 0, none⟩ = some (.int .i64 p)) (hL : w.cell? ⟨L, 0, none⟩ = some (.slice q l.length c)) :
    Calls Try.prog 62 #[.int .i64 i, .pointer (some ⟨S, 0, none⟩), .pointer (some ⟨P, 0, none⟩), .pointer (some ⟨L, 0, none⟩)] w fun e w' => e = .returned (.bool (btt s p (l[i]).2.pr)) ∧ ∃ n, w' = w.drewN n := by
  obtain ⟨g, rfl, hc, hr⟩ := h.cell hi
  have c3 := row_cell hr 3
  simp only [orow, List.getElem?_toArray, List.getElem?_cons_succ, List.getElem?_cons_zero] at c3
  obtain ⟨z, hz⟩ : ∃ z, (l[i]).2 = z := ⟨_, rfl⟩
  obtain ⟨bl, hbl⟩ : ∃ z, (l[i]).1 = z := ⟨_, rfl⟩
  rw [hbl] at hc c3
  rw [hz] at c3 ⊢
  unfold pv at hc
  have i0 : (0 : Int) ≤ (i : Int) := by omega
  have i1 : (i : Int) < (l.length : Int) := by omega
  clear h hr hz hbl
  go_enter Try.func62, Try.ntmps62
  go_wp2
  go_quiet ((go_at_call 63; exact Calls.quiet_of_same (better_any _ _ _ _)))
  go_wp2
  go_ret
  exact ⟨rfl, _, rfl⟩
theorem shr1 (n : Nat) (h : n < 9223372036854775808) : IntKind.u64.wrap ((n : Int)) = n := by rw [IntKind.wrap_u64]; omega
theorem search_any (S P L : Nat) (s p : Int) (q : Option Addr) (c : Nat) (l : LO) (w : World) (h : Li w q c l) (hsS : S < w.heap.size) (hsP : P < w.heap.size) (hsL : L < w.heap.size) (hS : w.cell? ⟨S, 0, none⟩ = some (.int .i64 s)) (hP : w.cell? ⟨P, 0, none⟩ = some (.int .i64 p)) (hL : w.cell? ⟨L, 0, none⟩ = some (.slice q l.length c)) (hn : l.length ≤ 1048576) (ho : Srt s l) :
    Calls Try.prog 61 #[.int .i64 l.length, .func (.func 62) #[] #[.pointer (some ⟨S, 0, none⟩), .pointer (some ⟨P, 0, none⟩), .pointer (some ⟨L, 0, none⟩)]] w fun e w' => e = .returned (.int .i64 (bhd s p l)) ∧ Below w.heap.size w w' := by
  have HL := hid h
  have HC := hid (And.intro hS (And.intro hP hL))
  have HO := hid ho
  clear h hS hP hL ho
  go_enter Try.func61, Try.ntmps61
  go_wp2
  go_loopw [5, 6] (fun iv jv wr => ∃ i j : Nat, i ≤ j ∧ j ≤ l.length ∧ iv = .int .i64 i ∧ jv = .int .i64 j ∧ Hid (∀ k (hk : k < l.length), k < i → btt s p (l[k]).2.pr = false) ∧ Hid (∀ k (hk : k < l.length), j ≤ k → btt s p (l[k]).2.pr = true) ∧ Hid (Below w.heap.size w wr)) (fun iv jv _ => (intOf jv).toNat - (intOf iv).toNat)
  case atStart => exact ⟨0, l.length, by omega, by omega, rfl, rfl, fun k _ hk => by omega, fun k _ hk => by omega, Below.refl _ _⟩
  case round =>
    obtain ⟨i, j, hij, hj, rfl, rfl, H1, H2, HB⟩ := hrel
    by_cases hlt : i < j
    · obtain ⟨m, hm⟩ : ∃ m, (i + j) / 2 = m := ⟨_, rfl⟩
      have hm1 : i ≤ m := by omega
      have hm2 : m < j := by omega
      have hml : m < l.length := by omega
      have C1 := hid (behind1_any S P L s p q c l m hml wr (HL.out.on HB.out) ((HB.out.cell hsS).trans HC.out.1) ((HB.out.cell hsP).trans HC.out.2.1) ((HB.out.cell hsL).trans HC.out.2.2))
      have a1 : IntKind.u64.wrap ((i : Int) + (j : Int)) = (i : Int) + (j : Int) := by rw [IntKind.wrap_u64]; omega
      have a2 : ((i : Int) + (j : Int)) / 2 = (m : Int) := by omega
      have a3 : IntKind.i64.wrap (m : Int) = (m : Int) := by rw [IntKind.wrap_i64]; omega
      have HM := hid hm
      clear hm
      obtain ⟨bv, hbv⟩ : ∃ b, btt s p (l[m]).2.pr = b := ⟨_, rfl⟩
      rw [hbv] at C1
      have HBV := hid hbv
      clear hbv
      cases bv with
      | true =>
        go_wp2_with (go_at_call 62; with_reducible refine (C1.out).mono ?_; rintro e w1 ⟨rfl, n, rfl⟩)
        go_roundw
        case rel => exact ⟨i, m, hm1, by omega, rfl, rfl, H1.out, fun k hk hmk => HO.out.up p hml hk hmk HBV.out, HB.out.trans ((bdrew _ _).mono HB.out.size)⟩
        case measure => simp [intOf]; omega
      | false =>
        go_wp2_with (go_at_call 62; with_reducible refine (C1.out).mono ?_; rintro e w1 ⟨rfl, n, rfl⟩)
        go_roundw
        case rel =>
          refine ⟨m + 1, j, by omega, by omega, by go_num, rfl, fun k hk hkm => ?_, H2.out, HB.out.trans ((bdrew _ _).mono HB.out.size)⟩
          cases hx : btt s p (l[k]).2.pr with
          | false => rfl
          | true =>
            have := HO.out.up p hk hml (by omega) hx
            rw [HBV.out] at this; cases this
        case measure => simp [intOf]; omega
    · have hi5 : i = j := by omega
      subst hi5
      go_wp2
      go_ret
      exact ⟨by rw [bhd_eq hj (fun k hk hki => H1.out k hk hki) (fun hk => H2.out i hk (Nat.le_refl _))]; rfl, HB.out⟩
theorem behind_any (s p : Int) (q : Option Addr) (c : Nat) (l : LO) (w : World) (h : Li w q c l) (hn : l.length ≤ 1048576) (ho : Srt s l) :
    Calls Try.prog 36 #[.slice q l.length c, .int .i64 s, .int .i64 p] w fun e w' => e = .returned (.int .i64 (bhd s p l)) ∧ Below w.heap.size w w' := by
  obtain ⟨W, hW⟩ : ∃ W, ((w.alloc (.cells #[.slice q l.length c] 96)).alloc (.cells #[.int .i64 s] 3)).alloc (.cells #[.int .i64 p] 3) = W := ⟨_, rfl⟩
  have hB : Below w.heap.size w W := by rw [← hW]; exact (((Below.refl _ w).alloc (Nat.le_refl _) _).alloc (by simp) _).alloc (by simp; try omega) _
  have r1 : W.heap[w.heap.size]? = some (.cells #[.slice q l.length c] 96 (0, 0)) := by
    rw [← hW, Below.heap_alloc _ _ _ (by simp; try omega), Below.heap_alloc _ _ _ (by simp)]; exact World.alloc_heap_new _ _
  have r2 : W.heap[w.heap.size + 1]? = some (.cells #[.int .i64 s] 3 (0, 0)) := by
    rw [← hW, Below.heap_alloc _ _ _ (by simp; try omega)]
    have := World.alloc_heap_new (w.alloc (.cells #[.slice q l.length c] 96)) (.cells #[.int .i64 s] 3)
    simpa using this
  have r3 : W.heap[w.heap.size + 1 + 1]? = some (.cells #[.int .i64 p] 3 (0, 0)) := by
    rw [← hW]
    have := World.alloc_heap_new ((w.alloc (.cells #[.slice q l.length c] 96)).alloc (.cells #[.int .i64 s] 3)) (.cells #[.int .i64 p] 3)
    simpa using this
  have C := hid (search_any (w.heap.size + 1) (w.heap.size + 1 + 1) w.heap.size s p q c l W (h.on hB) (row_lt r2) (row_lt r3) (row_lt r1) (by rw [row_cell r2]; rfl) (by rw [row_cell r3]; rfl) (by rw [row_cell r1]; rfl) hn ho)
  have HB := hid hB
  have HW := hid hW
  clear h ho hB r1 r2 r3 hW
  go_enter Try.func36, Try.ntmps36
  go_wp2_with (go_at_call 61; rw [HW.out]; with_reducible refine (C.out).mono ?_; rintro e w1 ⟨rfl, hb⟩)
  go_ret
  exact ⟨rfl, HB.out.trans (hb.mono HB.out.size)⟩
end Go.Proofs.Ytojmcfkbekodpaa
