/-
  Who would trade at a price, and how much.
-/
import Derived.Test.YtknikhoobhgidaaAuB
namespace Go.Proofs.Ytknikhoobhgidaa
open Go.RowKit Go.Deep
set_option linter.unusedVariables false
set_option linter.unusedSimpArgs false
set_option maxHeartbeats 2000000
set_option maxRecDepth 100000
theorem willing1_any (L P : Nat) (p : Int) (q : Option Addr) (c : Nat) (l : List It) (i : Nat) (hi : i < l.length) (w : World) (h : Li w q c l) (hL : w.cell? ⟨L, 0, none⟩ = some (.slice q l.length c)) (hP : w.cell? ⟨P, 0, none⟩ = some (.int .i64 p)) (hsL : L < w.heap.size) (hsP : P < w.heap.size) :
    Calls Try.prog 68 #[.int .i64 i, .pointer (some ⟨L, 0, none⟩), .pointer (some ⟨P, 0, none⟩)] w fun e w' => e = .returned (.bool (!acc p l[i])) ∧ Below w.heap.size w w' := by
  obtain ⟨g, rfl, a0, a1, a2, a3, a4, a5⟩ := h.cells hi
  obtain ⟨cu, hg⟩ := h.ty (OfP.mk g)
  have sg := row_lt hg
  obtain ⟨z, hz⟩ : ∃ z, l[i] = z := ⟨_, rfl⟩
  rw [hz] at a0 a1 a2 a3 a4 a5 ⊢
  obtain ⟨n, hn⟩ : ∃ n, l.length = n := ⟨_, rfl⟩
  rw [hn] at hL
  have i0 : (0 : Int) ≤ (i : Int) := by omega
  have i1 : (i : Int) < (n : Int) := by omega
  have HS := hid (show ∀ U, Below w.heap.size w U → U.cell? ⟨L, 0, none⟩ = some (.slice (some ⟨g, 0, none⟩) n c) ∧ U.cell? ⟨P, 0, none⟩ = some (.int .i64 p) ∧ U.cell? ⟨g, i * 6, none⟩ = some (.int .u64 z.id) ∧ U.cell? ⟨g, i * 6 + 1, none⟩ = some (.int .u32 z.mb) ∧ U.cell? ⟨g, i * 6 + 2, none⟩ = some (.int .i64 z.sd) ∧ U.cell? ⟨g, i * 6 + 3, none⟩ = some (.int .i64 z.ty) ∧ U.cell? ⟨g, i * 6 + 4, none⟩ = some (.int .i64 z.pr) ∧ U.cell? ⟨g, i * 6 + 5, none⟩ = some (.int .u64 z.qt) from fun U hU => ⟨(hU.cell (p := ⟨L, 0, none⟩) hsL).trans hL, (hU.cell (p := ⟨P, 0, none⟩) hsP).trans hP, (hU.cell (p := ⟨g, i * 6, none⟩) sg).trans a0, (hU.cell (p := ⟨g, i * 6 + 1, none⟩) sg).trans a1, (hU.cell (p := ⟨g, i * 6 + 2, none⟩) sg).trans a2, (hU.cell (p := ⟨g, i * 6 + 3, none⟩) sg).trans a3, (hU.cell (p := ⟨g, i * 6 + 4, none⟩) sg).trans a4, (hU.cell (p := ⟨g, i * 6 + 5, none⟩) sg).trans a5⟩)
  have C := hid (fun U (hU : Below w.heap.size w U) => on_b (accepts_any z p U) hU)
  clear h hz hn hg hi
  go_enter Try.func68, Try.ntmps68
  go_upto_region 1 with fail
  go_region_held3 (fun U => U.cell? ⟨L, 0, none⟩ = some (.slice (some ⟨g, 0, none⟩) n c) ∧ U.cell? ⟨P, 0, none⟩ = some (.int .i64 p) ∧ U.cell? ⟨g, i * 6, none⟩ = some (.int .u64 z.id) ∧ U.cell? ⟨g, i * 6 + 1, none⟩ = some (.int .u32 z.mb) ∧ U.cell? ⟨g, i * 6 + 2, none⟩ = some (.int .i64 z.sd) ∧ U.cell? ⟨g, i * 6 + 3, none⟩ = some (.int .i64 z.ty) ∧ U.cell? ⟨g, i * 6 + 4, none⟩ = some (.int .i64 z.pr) ∧ U.cell? ⟨g, i * 6 + 5, none⟩ = some (.int .u64 z.qt)) (go_keep) (first | (go_at_call 69; with_reducible refine (C.out _ (bdrew1 w)).mono ?_; rintro e w1 ⟨rfl, HB1⟩; obtain ⟨k0, k1, k2, k3, k4, k5, k6, k7⟩ := HS.out w1 HB1.out))
  go_wp2
  go_ret
  exact ⟨rfl, HB1.out⟩
theorem search_w (L P : Nat) (s p : Int) (q : Option Addr) (c : Nat) (l : List It) (w : World) (h : Li w q c l) (hL : w.cell? ⟨L, 0, none⟩ = some (.slice q l.length c)) (hP : w.cell? ⟨P, 0, none⟩ = some (.int .i64 p)) (hsL : L < w.heap.size) (hsP : P < w.heap.size) (ho : Sd s l) :
    Calls Try.prog 55 #[.int .i64 l.length, .func (.func 68) #[] #[.pointer (some ⟨L, 0, none⟩), .pointer (some ⟨P, 0, none⟩)]] w fun e w' => e = .returned (.int .i64 (wl p l)) ∧ Below w.heap.size w w' := by
  have hn := ho.ln
  have HL := hid h
  have HC := hid (And.intro hL hP)
  have HO := hid ho
  clear h hL hP ho
  go_enter Try.func55, Try.ntmps55
  go_wp2
  go_loopw [5, 6] (fun iv jv wr => ∃ i j : Nat, i ≤ j ∧ j ≤ l.length ∧ iv = .int .i64 i ∧ jv = .int .i64 j ∧ Hid (∀ k (hk : k < l.length), k < i → acc p l[k] = true) ∧ Hid (∀ k (hk : k < l.length), j ≤ k → acc p l[k] = false) ∧ Hid (Below w.heap.size w wr)) (fun iv jv _ => (intOf jv).toNat - (intOf iv).toNat)
  case atStart => exact ⟨0, l.length, by omega, by omega, rfl, rfl, fun k _ hk => by omega, fun k _ hk => by omega, Below.refl _ _⟩
  case round =>
    obtain ⟨i, j, hij, hj, rfl, rfl, H1, H2, HB⟩ := hrel
    by_cases hlt : i < j
    · obtain ⟨m, hm⟩ : ∃ m, (i + j) / 2 = m := ⟨_, rfl⟩
      have hm1 : i ≤ m := by omega
      have hm2 : m < j := by omega
      have hml : m < l.length := by omega
      have C1 := hid (willing1_any L P p q c l m hml wr (HL.out.on HB.out) ((HB.out.cell (p := ⟨L, 0, none⟩) hsL).trans HC.out.1) ((HB.out.cell (p := ⟨P, 0, none⟩) hsP).trans HC.out.2) (Nat.lt_of_lt_of_le hsL HB.out.size) (Nat.lt_of_lt_of_le hsP HB.out.size))
      have a1 : IntKind.u64.wrap ((i : Int) + (j : Int)) = (i : Int) + (j : Int) := by rw [IntKind.wrap_u64]; omega
      have a2 : ((i : Int) + (j : Int)) / 2 = (m : Int) := by omega
      have a3 : IntKind.i64.wrap (m : Int) = (m : Int) := by rw [IntKind.wrap_i64]; omega
      have HM := hid hm
      clear hm
      obtain ⟨bv, hbv⟩ : ∃ b, acc p l[m] = b := ⟨_, rfl⟩
      rw [hbv] at C1
      have HBV := hid hbv
      clear hbv
      cases bv with
      | false =>
        simp only [Bool.not_false] at C1
        go_wp2_with (go_at_call 68; with_reducible refine (C1.out).mono ?_; rintro e w1 ⟨rfl, hb1⟩; have HB1 := hid hb1; clear hb1)
        go_roundw
        case rel =>
          refine ⟨i, m, hm1, by omega, rfl, rfl, H1.out, fun k hk hmk => ?_, btr HB.out HB1.out⟩
          cases hx : acc p l[k] with
          | false => rfl
          | true =>
            have := HO.out.acc hml hk hmk hx
            rw [HBV.out] at this; cases this
        case measure => simp [intOf]; omega
      | true =>
        simp only [Bool.not_true] at C1
        go_wp2_with (go_at_call 68; with_reducible refine (C1.out).mono ?_; rintro e w1 ⟨rfl, hb1⟩; have HB1 := hid hb1; clear hb1)
        go_roundw
        case rel => exact ⟨m + 1, j, by omega, by omega, by go_num, rfl, fun k hk hkm => HO.out.acc hk hml (by omega) HBV.out, H2.out, btr HB.out HB1.out⟩
        case measure => simp [intOf]; omega
    · have hi5 : i = j := by omega
      subst hi5
      go_wp2
      go_ret
      exact ⟨by rw [show wl p l = i from tw_eq hj (fun k hk hki => H1.out k hk hki) (fun hk => H2.out i hk (Nat.le_refl _))]; rfl, HB.out⟩
theorem willing_any (s p : Int) (q : Option Addr) (c : Nat) (l : List It) (w : World) (h : Li w q c l) (ho : Sd s l) :
    Calls Try.prog 44 #[.slice q l.length c, .int .i64 p] w fun e w' => e = .returned (.int .i64 (wl p l)) ∧ Below w.heap.size w w' := by
  obtain ⟨W, hW⟩ : ∃ W, (w.alloc (.cells #[.slice q l.length c] 65)).alloc (.cells #[.int .i64 p] 3) = W := ⟨_, rfl⟩
  have hB : Below w.heap.size w W := by rw [← hW]; exact btr (ball _ _) (ball _ _)
  have r1 : W.heap[w.heap.size]? = some (.cells #[.slice q l.length c] 65 (0, 0)) := by rw [← hW]; exact row_on (World.alloc_heap_new _ _) (ball _ _)
  have r2 : W.heap[w.heap.size + 1]? = some (.cells #[.int .i64 p] 3 (0, 0)) := by
    rw [← hW]
    have := World.alloc_heap_new (w.alloc (.cells #[.slice q l.length c] 65)) (.cells #[.int .i64 p] 3)
    simpa using this
  have C := hid (search_w w.heap.size (w.heap.size + 1) s p q c l W (h.on hB) (by rw [row_cell r1]; rfl) (by rw [row_cell r2]; rfl) (row_lt r1) (row_lt r2) ho)
  have HB := hid hB
  have HW := hid hW
  clear h ho hB r1 r2 hW
  go_enter Try.func44, Try.ntmps44
  go_wp2_with (go_at_call 55; rw [HW.out]; with_reducible refine (C.out).mono ?_; rintro e w1 ⟨rfl, hb⟩)
  go_ret
  exact ⟨rfl, HB.out.trans (hb.mono HB.out.size)⟩
theorem take_tot {l : List It} {i : Nat} (hi : i < l.length) : tot (l.take (i + 1)) = tot (l.take i) + l[i].qt := by
  rw [List.take_succ_eq_append_getElem hi, tot_app, tot_cons, tot_nil, Int.add_zero]
theorem Sd.tot {s : Int} {l : List It} (h : Sd s l) (i : Nat) : 0 ≤ tot (l.take i) ∧ tot (l.take i) ≤ 17592186044416 := by
  have a := tot_bound (s := s) (l := l.take i) (fun x hx => h.ok x (List.mem_of_mem_take hx))
  have b := h.ln
  have c : (l.take i).length ≤ l.length := by simp; omega
  omega
theorem would_any (s p : Int) (q : Option Addr) (c : Nat) (l : List It) (w : World) (h : Li w q c l) (ho : Sd s l) :
    Calls Try.prog 37 #[.slice q l.length c, .int .i64 p] w fun e w' => e = .returned (.int .u64 (wd p l)) ∧ Below w.heap.size w w' := by
  have hln := ho.ln
  obtain ⟨hc1, hc2⟩ := h.cap
  have C := hid (fun U hU => willing_any s p q c l U (h.on hU) ho)
  have HL := hid h
  have HO := hid ho
  have hwl : wl p l ≤ l.length := tw_le _ _
  obtain ⟨m, hm⟩ : ∃ m, wl p l = m := ⟨_, rfl⟩
  obtain ⟨n, hn⟩ : ∃ n, l.length = n := ⟨_, rfl⟩
  have HM := hid hm
  have HN := hid hn
  rw [hm] at C hwl
  rw [hn] at C hwl hln hc1 ⊢
  have hmc : (m : Int) ≤ (c : Int) := by omega
  have HE := hid (show wd p l = tot (l.take m) by rw [← hm]; rfl)
  clear hm hn h ho
  go_enter Try.func37, Try.ntmps37
  go_wp2_with (go_at_call 44; with_reducible refine (C.out _ (Below.refl _ _)).mono ?_; rintro e w1 ⟨rfl, hb⟩; have HB0 := hid hb; clear hb)
  go_loopw [14, 5] (fun iv qv wr => ∃ i : Nat, i ≤ m ∧ iv = .int .i64 i ∧ qv = .int .u64 (tot (l.take i)) ∧ Hid (Below w.heap.size w wr)) (fun iv _ _ => m - (intOf iv).toNat)
  case atStart => exact ⟨0, Nat.zero_le _, rfl, by simp [tot], HB0.out⟩
  case round =>
    obtain ⟨i, him, rfl, rfl, HB⟩ := hrel
    by_cases hlt : i < m
    · have hi : i < l.length := by rw [HN.out]; omega
      obtain ⟨g, hp, a0, a1, a2, a3, a4, a5⟩ := (HL.out.on HB.out).cells hi
      subst hp
      have q1 := HO.out.tot (i + 1)
      rw [take_tot hi] at q1
      have HT := hid (take_tot hi)
      obtain ⟨z, hz⟩ : ∃ z, l[i] = z := ⟨_, rfl⟩
      rw [hz] at a0 a1 a2 a3 a4 a5 q1 HT
      obtain ⟨t, ht⟩ : ∃ t, tot (l.take i) = t := ⟨_, rfl⟩
      rw [ht] at q1 HT ⊢
      have a6 : IntKind.u64.wrap (t + z.qt) = t + z.qt := by rw [IntKind.wrap_u64]; omega
      have i0 : (0 : Int) ≤ (i : Int) := by omega
      have i1 : (i : Int) < (m : Int) := by omega
      clear hz ht q1
      go_wp2
      go_roundw
      case rel => exact ⟨i + 1, by omega, by go_num, by rw [HT.out], btr HB.out (ball _ _)⟩
      case measure => simp [intOf]; omega
    · obtain rfl : i = m := by omega
      go_wp2
      go_ret
      exact ⟨by rw [HE.out]; rfl, HB.out⟩
end Go.Proofs.Ytknikhoobhgidaa
