/-
  The document's taken, Unpack.
-/
import Derived.Test.YtnhipamajelalaaMgS
namespace Go.Proofs.Ytnhipamajelalaa
open Go.RowKit Go.Maps Go.Deep Go.Lib
set_option linter.unusedVariables false
set_option linter.unusedSimpArgs false

theorem fields_no (k : Int) (h : ¬ (1 ≤ k ∧ k ≤ 4)) (w : World) : Calls Try.prog 19 #[.int .i64 k] w fun e w' => e = .returned (.slice none 0 0) ∧ Below w.heap.size w w' := by
  have h1 : ¬ k = 1 := by omega
  have h2 : ¬ k = 2 := by omega
  have h3 : ¬ k = 3 := by omega
  have h4 : ¬ k = 4 := by omega
  clear h
  go_enter Try.func19, Try.ntmps19
  go_wp2
  go_ret
  exact ⟨rfl, btr (btr (btr (btr (ball _ _) (ball _ _)) (ball _ _)) (ball _ _)) (ball _ _)⟩
theorem anW_all {a : Int} (h : Wd a) : anW a 18446744073709551615 = a := by
  obtain ⟨n, rfl⟩ : ∃ n : Nat, a = (n : Int) := ⟨a.toNat, by have := h.1; omega⟩
  have h2 := h.2
  unfold anW
  have e := u64_and_nat n 18446744073709551615 (by omega) (by omega)
  rw [show ((18446744073709551615 : Nat) : Int) = 18446744073709551615 from rfl] at e
  rw [e]
  have e3 : n &&& 18446744073709551615 = n := by
    have := Nat.and_two_pow_sub_one_eq_mod n 64
    rw [show (2 : Nat) ^ 64 - 1 = 18446744073709551615 from rfl] at this
    rw [this]
    exact Nat.mod_eq_of_lt (by omega)
  rw [e3]
theorem div_wd {x : Int} (h : Wd x) (S : Nat) : Wd (x / 2 ^ S) := by
  obtain ⟨n, rfl⟩ : ∃ n : Nat, x = (n : Int) := ⟨x.toNat, by have := h.1; omega⟩
  have h2 := h.2
  have e : ((n : Int) / 2 ^ S) = ((n / 2 ^ S : Nat) : Int) := by push_cast; rfl
  rw [e]
  have := Nat.div_le_self n (2 ^ S)
  obtain ⟨M, hM⟩ : ∃ M, n / 2 ^ S = M := ⟨_, rfl⟩
  rw [hM] at this ⊢
  exact ⟨by omega, by omega⟩
set_option maxHeartbeats 2000000 in
set_option maxRecDepth 100000 in
theorem taken_any (k : Int) (l : List Int) (hl : l.length = 7) (hw : ∀ x ∈ l, Wd x) (t : Int) (ht : t ∈ tagsL k) (w : World) :
    Calls Try.prog 25 #[.agg (frV k l), .agg #[.int .i64 t, .int .u64 (most t), .int .i64 (plW k t), .int .i64 (plB t)]] w fun e w' => e = .returned (.int .u64 (rdG k l t)) ∧ Below w.heap.size w w' := by
  obtain ⟨p1, p2, p3, p4⟩ := place_in k t ht
  obtain ⟨W, hW⟩ : ∃ x : Nat, plW k t = (x : Int) := ⟨(plW k t).toNat, by omega⟩
  obtain ⟨S, hS⟩ : ∃ x : Nat, plB t = (x : Int) := ⟨(plB t).toNat, by omega⟩
  have HG : rdG k l t = anW (l.getD W 0 / 2 ^ S) (bnd t) := by unfold rdG; rw [hW, hS]; rfl
  have hx : W < l.length := by omega
  have hxw : Wd (l.getD W 0) := by
    have h1 : l.getD W 0 = l[W] := by simp [hx]
    rw [h1]
    exact hw _ (List.getElem_mem hx)
  have hmn := most_nn t
  have hword : ((w.alloc (.cells (frV k l) 30)).alloc (.cells #[.int .i64 t, .int .u64 (most t), .int .i64 (plW k t), .int .i64 (plB t)] 63)).cell? ⟨w.heap.size, 1 + W, none⟩ = some (.int .u64 (l.getD W 0)) := by
    rw [row_cell (row_on (heap_alloc_new _ _) (ball _ _)) (1 + W)]
    simp [frV, uv, Nat.add_comm 1 W, hx]
  rw [hW, hS] at hword ⊢
  rw [hW] at p2
  rw [hS] at p4
  rw [HG]
  obtain ⟨x, hx2⟩ : ∃ x, l.getD W 0 = x := ⟨_, rfl⟩
  rw [hx2] at hword hxw ⊢
  obtain ⟨b0, b1, b2, b3, b4, b5, b6, hl7⟩ := list7 hl
  subst hl7
  have hfv : frV k [b0, b1, b2, b3, b4, b5, b6] = #[.int .u8 k, .int .u64 b0, .int .u64 b1, .int .u64 b2, .int .u64 b3, .int .u64 b4, .int .u64 b5, .int .u64 b6] := rfl
  rw [hfv] at hword ⊢
  have i0 : (0 : Int) ≤ (W : Int) := by omega
  have i1 : (W : Int) < 7 := by omega
  have s0 : (0 : Int) ≤ (S : Int) := by omega
  have s1 : (S : Int) < 64 := by omega
  by_cases hm : 0 < most t
  · have e1 : bnd t = most t := by unfold most at hm ⊢; split at hm <;> simp_all
    rw [e1]
    unfold anW
    have hwd := hxw
    obtain ⟨x0, x1⟩ := hxw
    clear hwd p1 p2 p3 p4 hW hS HG hx hx2 hl hw hfv e1 ht
    go_enter Try.func25, Try.ntmps25
    go_wp2
    go_quiet (fail)
    go_wp2
    go_ret
    exact ⟨rfl, below_drewN (btr (ball _ _) (ball _ _)) _⟩
  · have e1 : bnd t = 18446744073709551615 := by
      have : most t = 0 := by omega
      unfold most at this
      split at this
      · assumption
      · unfold bnd at this ⊢
        repeat' split at this
        all_goals omega
    rw [e1, anW_all (div_wd hxw S)]
    obtain ⟨x0, x1⟩ := hxw
    clear p1 p2 p3 p4 hW hS HG hx hx2 hl hw hfv e1 ht
    go_enter Try.func25, Try.ntmps25
    go_wp2
    go_quiet (fail)
    go_wp2
    go_ret
    exact ⟨rfl, below_drewN (btr (ball _ _) (ball _ _)) _⟩
structure UnR (w : World) (k : Int) (l : List Int) (q : Option Addr) (L : List Int) (A j : Nat) (wr : World) : Prop where
  r0 : wr.heap[w.heap.size]? = some (.cells (frV k l) 30 (0, 0))
  z : wr.heap[w.heap.size + 1]? = some (.cells zeroI.v 27 (0, 0))
  a : wr.heap[A]? = some (.cells (agnF (rdG k l) k (L.take j)).v 27 (0, 0))
  s : Sf wr q k L
  bel : Below w.heap.size w wr
theorem UnR.below {w wr w' : World} {k : Int} {l : List Int} {q : Option Addr} {L : List Int} {A j : Nat} (h : UnR w k l q L A j wr) (hb : Below wr.heap.size wr w') : UnR w k l q L A j w' :=
  ⟨row_on h.r0 hb, row_on h.z hb, row_on h.a hb, h.s.on hb, btr h.bel hb⟩
theorem UnR.drew {w wr : World} {k : Int} {l : List Int} {q : Option Addr} {L : List Int} {A j : Nat} (h : UnR w k l q L A j wr) : UnR w k l q L A j wr.drew := h.below ⟨rfl, rfl, rfl, Nat.le_refl _, fun _ _ => rfl⟩
theorem UnR.next {w w2 W3 : World} {k : Int} {l : List Int} {qb qo : Nat} {L : List Int} {A j : Nat} (h : UnR w k l (some ⟨qb, qo, none⟩) L A j w2) (hs : St w2 A 27 (agnF (rdG k l) k (L.take (j + 1))).v W3) (hWA : w.heap.size + 1 < A) (hq : qb < A) : UnR w k l (some ⟨qb, qo, none⟩) L A (j + 1) W3 := by
  refine ⟨(hs.oth _ (by omega)).trans h.r0, (hs.oth _ (by omega)).trans h.z, hs.row, ?_, hs.bel _ _ h.bel (by omega)⟩
  intro i hi
  obtain ⟨b, o', e, c0, c1, c2, c3⟩ := h.s i hi
  obtain ⟨rfl, rfl⟩ := addr_inj e
  have hc : ∀ j u, w2.cell? ⟨qb, j, none⟩ = some u → W3.cell? ⟨qb, j, none⟩ = some u := fun j u hu => hs.cell (by omega) hu
  exact ⟨qb, qo, rfl, hc _ _ c0, hc _ _ c1, hc _ _ c2, hc _ _ c3⟩
theorem agnF_step (f : Int → Int) (k : Int) (L : List Int) (j : Nat) (h : j < L.length) : agnF f k (L.take (j + 1)) = (agnF f k (L.take j)).set L[j] (f L[j]) := by
  unfold agnF
  rw [List.take_succ_eq_append_getElem h, List.foldl_append]
  rfl
set_option maxHeartbeats 4000000 in
set_option maxRecDepth 100000 in
theorem runpack_any (k a0 a1 a2 a3 a4 a5 a6 : Int) (hk0 : 0 ≤ k) (hk : k < 256) (ha : ∀ x ∈ [a0, a1, a2, a3, a4, a5, a6], Wd x) (w : World) :
    Calls Try.prog 9 #[.agg (frV k [a0, a1, a2, a3, a4, a5, a6])] w fun e w' => e = .returned (.tuple #[.agg (upI k [a0, a1, a2, a3, a4, a5, a6]).v, .int .i64 (upE k [a0, a1, a2, a3, a4, a5, a6])]) ∧ Below w.heap.size w w' := by
  by_cases hin : 1 ≤ k ∧ k ≤ 4
  · obtain ⟨h1, h4⟩ := hin
    have hE : upE k [a0, a1, a2, a3, a4, a5, a6] = if (rdI k [a0, a1, a2, a3, a4, a5, a6]).e = 0 ∧ (rdI k [a0, a1, a2, a3, a4, a5, a6]).pk = k ∧ (rdI k [a0, a1, a2, a3, a4, a5, a6]).pw = [a0, a1, a2, a3, a4, a5, a6] then 0 else 40 := by unfold upE; rw [if_pos ⟨h1, h4⟩]
    have FA := hid (fun w => fields_any k h1 h4 w)
    have BA := hid (fun w => bare_any k w)
    have TK := hid (fun t ht w => taken_any k [a0, a1, a2, a3, a4, a5, a6] rfl ha t ht w)
    have HIT := hid (fun t ht => in_tag (t := t) h1 h4 ht)
    have PA := hid (fun w => rpack_any (rdI k [a0, a1, a2, a3, a4, a5, a6]) (rdI_ok k [a0, a1, a2, a3, a4, a5, a6]) (rdI_rg k [a0, a1, a2, a3, a4, a5, a6]) w)
    have hlen := tags_len k
    have hpos : 0 < (tagsL k).length := by
      obtain rfl | rfl | rfl | rfl : k = 1 ∨ k = 2 ∨ k = 3 ∨ k = 4 := by omega
      all_goals simp [tagsL]
    have HR := hid (show ((w.alloc (.cells (frV k [a0, a1, a2, a3, a4, a5, a6]) 30)).alloc (.cells zeroI.v 27)).heap[w.heap.size]? = some (.cells (frV k [a0, a1, a2, a3, a4, a5, a6]) 30 (0, 0)) from row_on (heap_alloc_new _ _) (ball _ _))
    have HZ := hid (heap2 w (.cells (frV k [a0, a1, a2, a3, a4, a5, a6]) 30) (.cells zeroI.v 27))
    have HY0 := hid (show rdI k [a0, a1, a2, a3, a4, a5, a6] = agnF (rdG k [a0, a1, a2, a3, a4, a5, a6]) k (tagsL k) from rfl)
    have hfa : frV k [a0, a1, a2, a3, a4, a5, a6] = #[.int .u8 k, .int .u64 a0, .int .u64 a1, .int .u64 a2, .int .u64 a3, .int .u64 a4, .int .u64 a5, .int .u64 a6] := rfl
    rw [hfa] at TK
    obtain ⟨Y, hY⟩ : ∃ y, rdI k [a0, a1, a2, a3, a4, a5, a6] = y := ⟨_, rfl⟩
    rw [hY] at PA hE HY0
    obtain ⟨L, hL⟩ : ∃ l, tagsL k = l := ⟨_, rfl⟩
    unfold FldP at FA
    rw [hL] at FA HIT hlen hpos TK HY0
    obtain ⟨l, hl⟩ : ∃ l, [a0, a1, a2, a3, a4, a5, a6] = l := ⟨_, rfl⟩
    rw [hl] at TK HY0
    have HY := hid HY0.out.symm
    have HLL := hid hl
    have HT3 := hid (show ∀ x, x = [a0, a1, a2, a3, a4, a5, a6] → x = l from fun x h => h.trans hl)
    obtain ⟨b0, b1, b2, b3, b4, b5, b6, hlb⟩ := list7 (pw_len Y)
    obtain ⟨K, hK⟩ : ∃ y, Y.pk = y := ⟨_, rfl⟩
    obtain ⟨E, hEE⟩ : ∃ y, Y.e = y := ⟨_, rfl⟩
    have hfb0 : frV K [b0, b1, b2, b3, b4, b5, b6] = #[.int .u8 K, .int .u64 b0, .int .u64 b1, .int .u64 b2, .int .u64 b3, .int .u64 b4, .int .u64 b5, .int .u64 b6] := rfl
    rw [hlb, hK, hEE] at PA hE
    rw [hfb0] at PA
    have HEQ := hid hE
    have HYY := hid hY
    clear hlb hK hEE hfb0 hE hY HY0 h1 h4 ha hL HT3
    have HRES := hid (show ∀ (v : Array Value) (e : Int), (upI k [a0, a1, a2, a3, a4, a5, a6]).v = v → upE k [a0, a1, a2, a3, a4, a5, a6] = e → Ending.returned (.tuple #[.agg v, .int .i64 e]) = Ending.returned (.tuple #[.agg (upI k [a0, a1, a2, a3, a4, a5, a6]).v, .int .i64 (upE k [a0, a1, a2, a3, a4, a5, a6])]) from fun v e h1 h2 => by rw [h1, h2])
    rw [hfa]
    clear hfa
    go_enter Try.func9, Try.ntmps9
    go_wp2_with (first | (go_at_call 19; refine (FA.out _).mono ?_; rintro e w2 ⟨q, cap, rfl, hS, hb⟩; have HS2 := hid hS; have HB2 := hid hb; clear hS hb; refine Hid.out ?_))
    have HR2 := hid (row_on HR.out HB2.out)
    have HZ2 := hid (row_on HZ.out HB2.out)
    have HW2 := hid (btr (btr (ball _ _) (ball _ _)) HB2.out)
    have hne : ((L.length : Int) == 0) = false := by
      have : ¬ (L.length : Int) = 0 := by omega
      simpa using this
    have k0 : w2.cell? ⟨w.heap.size, 0, none⟩ = some (.int .u8 k) := row_cell HR2.out 0
    clear HR HZ FA HB2
    refine hid ?_
    go_wp2_with (first | (go_at_call 23; refine (BA.out _).mono ?_; rintro e w4 ⟨rfl, hb⟩; have HB4 := hid hb; clear hb; refine Hid.out ?_))
    have PK := hid (show UnR w k l q L w4.heap.size 0 (w4.alloc (.cells (bareI k).v 27)) from ⟨by rw [← HLL.out]; exact row_on (row_on HR2.out HB4.out) (ball _ _), row_on (row_on HZ2.out HB4.out) (ball _ _), heap_alloc_new _ _, (HS2.out.on HB4.out).on (ball _ _), btr (btr HW2.out HB4.out) (ball _ _)⟩)
    have HQ := hid (show ∀ b o, q = some ⟨b, o, none⟩ → b < w4.heap.size from fun b o e => by
      obtain ⟨b', o', e', hc, _⟩ := HS2.out 0 hpos
      rw [e'] at e
      simp at e
      rw [← e.1]
      exact Nat.lt_of_lt_of_le (cell_lt hc) HB4.out.size)
    have HWA := hid (show w.heap.size + 1 < w4.heap.size from Nat.lt_of_lt_of_le (row_lt HZ2.out) HB4.out.size)
    clear HR2 HZ2 HW2 HS2 HB4 BA k0
    refine hid ?_
    unfold Inp.v iV
    go_wp2
    unfold Inp.v iV at PK
    obtain ⟨W5, hW5⟩ : ∃ y, w4.alloc (.cells #[.int .i64 (bareI k).ki, .int .i64 (bareI k).co, .int .u64 (bareI k).id, .int .u64 (bareI k).tg, .int .u32 (bareI k).me, .int .i64 (bareI k).si, .int .i64 (bareI k).ty, .int .i64 (bareI k).pr, .int .u64 (bareI k).qt, .int .u64 (bareI k).pe, .int .i64 (bareI k).en] 27) = y := ⟨_, rfl⟩
    obtain ⟨A, hA⟩ : ∃ y, w4.heap.size = y := ⟨_, rfl⟩
    rw [hW5, hA] at PK
    rw [hA] at HQ HWA
    rw [hW5, hA]
    clear hW5 hA
    go_loopw [6] (fun iv wr => ∃ j : Nat, j ≤ L.length ∧ iv = .int .i64 j ∧ UnR w k l q L A j wr) (fun iv _ => L.length - (intOf iv).toNat)
    case atStart => exact ⟨0, Nat.zero_le _, rfl, PK.out⟩
    case round =>
      obtain ⟨j, hj, rfl, hpk⟩ := hrel
      have PJ := hid hpk
      clear hpk PK
      by_cases hjl : j < L.length
      · have hjl' : (j : Int) < (L.length : Int) := by omega
        have hj0 : (0 : Int) ≤ (j : Int) := by omega
        obtain ⟨qb, qo, rfl, f0, f1, f2, f3⟩ := PJ.out.s j hjl
        have HAG := hid (agnF_step (rdG k l) k L j hjl)
        have HT := hid (HIT.out L[j] (List.getElem_mem hjl))
        have HTM := hid (List.getElem_mem hjl)
        obtain ⟨t, ht⟩ : ∃ t, L[j] = t := ⟨_, rfl⟩
        rw [ht] at f0 f1 f2 f3 HAG HT HTM
        have HTT := hid ht
        clear ht
        have TKt := hid (fun w => TK.out t HTM.out w)
        have WI := hid (fun w => with_any (agnF (rdG k l) k (L.take j)) t (rdG k l t) HT.out w)
        unfold Inp.v iV at WI
        obtain ⟨c0, c1, c2, c3, c4, c5, c6, c7, c8, c9, c10⟩ := cells_I PJ.out.a
        have hr0 := PJ.out.r0
        rw [← HLL.out] at hr0
        obtain ⟨d0, d1, d2, d3, d4, d5, d6, d7⟩ := cells_F hr0
        clear hr0
        go_wp2
        go_region_with (first
          | (go_at_call 25; refine (TKt.out wr.drew).mono ?_; rintro e w1 ⟨rfl, hb⟩; have P1 := hid (PJ.out.drew.below (w' := w1) hb); obtain ⟨_, _, he1, g0, _, _, _⟩ := P1.out.s j hjl; obtain ⟨rfl, rfl⟩ := addr_inj he1; rw [HTT.out] at g0; obtain ⟨e0, e1, e2, e3, e4, e5, e6, e7, e8, e9, e10⟩ := cells_I P1.out.a; clear hb he1)
          | (go_at_call 24; refine (WI.out w1).mono ?_; rintro e w2 ⟨rfl, hb⟩; have P2 := hid (P1.out.below (w' := w2) hb); obtain ⟨y0, y1, y2, y3, y4, y5, y6, y7, y8, y9, y10⟩ := cells_I P2.out.a; obtain ⟨z0, z1, z2, z3, z4, z5, z6, z7, z8, z9, z10⟩ := frz_I P2.out.a; clear hb))
        all_goals
          obtain ⟨W3, hW3, hST⟩ := st11 w2 A _ ((agnF (rdG k l) k (L.take j)).set t (rdG k l t)) P2.out.a
          rw [← HAG.out] at hST
          have PN := hid (P2.out.next hST HWA.out (HQ.out _ _ rfl))
          clear hST z0 z1 z2 z3 z4 z5 z6 z7 z8 z9 z10 y0 y1 y2 y3 y4 y5 y6 y7 y8 y9 y10 e0 e1 e2 e3 e4 e5 e6 e7 e8 e9 e10
          rw [hW3]
          clear hW3
          go_wp2
          go_roundw
          case rel => exact ⟨j + 1, by omega, by go_num, PN.out⟩
          case measure => simp [intOf]; omega
      · have hje : j = L.length := by omega
        subst hje
        by_cases hok : E = 0 ∧ K = k ∧ [b0, b1, b2, b3, b4, b5, b6] = [a0, a1, a2, a3, a4, a5, a6]
        · have hE := HEQ.out
          rw [if_pos hok] at hE
          have hI : upI k [a0, a1, a2, a3, a4, a5, a6] = Y := by unfold upI; rw [if_pos hE, HYY.out]
          have HR9 := hid (HRES.out Y.v 0 (by rw [hI]) hE)
          obtain ⟨rfl, rfl, hw⟩ := hok
          obtain ⟨rfl, rfl, rfl, rfl, rfl, rfl, rfl⟩ : b0 = a0 ∧ b1 = a1 ∧ b2 = a2 ∧ b3 = a3 ∧ b4 = a4 ∧ b5 = a5 ∧ b6 = a6 := by simpa using hw
          have q := eqFr_same K b0 b1 b2 b3 b4 b5 b6
          clear hE hI hw
          have hp := PJ.out
          have ha := hp.a
          rw [List.take_length (l := L)] at ha
          have HRA := hid (show wr.heap[A]? = some (.cells Y.v 27 (0, 0)) by rw [HY.out] at ha; exact ha)
          have HR1 := hid hp.r0
          have HZ1 := hid hp.z
          have HW1 := hid hp.bel
          obtain ⟨c0, c1, c2, c3, c4, c5, c6, c7, c8, c9, c10⟩ := cells_I HRA.out
          clear hp ha PJ
          unfold Inp.v iV at PA
          go_wp2_with (first | (go_at_call 7; refine (PA.out _).mono ?_; rintro e w4 ⟨rfl, hb⟩; have HB4 := hid hb; clear hb; refine Hid.out ?_))
          have HR2 := hid (show (w4.alloc (.cells (frV K [b0, b1, b2, b3, b4, b5, b6]) 30)).heap[w.heap.size]? = some (.cells (frV K l) 30 (0, 0)) from row_on (row_on HR1.out HB4.out) (ball _ _))
          have HZ2 := hid (show (w4.alloc (.cells (frV K [b0, b1, b2, b3, b4, b5, b6]) 30)).heap[w.heap.size + 1]? = some (.cells zeroI.v 27 (0, 0)) from row_on (row_on HZ1.out HB4.out) (ball _ _))
          have HW2 := hid (show Below w.heap.size w (w4.alloc (.cells (frV K [b0, b1, b2, b3, b4, b5, b6]) 30)) from btr (btr HW1.out HB4.out) (ball _ _))
          have HY2 := hid (show (w4.alloc (.cells (frV K [b0, b1, b2, b3, b4, b5, b6]) 30)).heap[A]? = some (.cells Y.v 27 (0, 0)) from row_on (row_on HRA.out HB4.out) (ball _ _))
          have hfb : frV K [b0, b1, b2, b3, b4, b5, b6] = #[.int .u8 K, .int .u64 b0, .int .u64 b1, .int .u64 b2, .int .u64 b3, .int .u64 b4, .int .u64 b5, .int .u64 b6] := rfl
          rw [hfb] at HR2 HZ2 HW2 HY2
          rw [← HLL.out] at HR2
          clear HR1 HZ1 HW1 HRA HB4 PA hfb c0 c1 c2 c3 c4 c5 c6 c7 c8 c9 c10
          obtain ⟨d0, d1, d2, d3, d4, d5, d6, d7⟩ := cells_F HR2.out
          refine hid ?_
          obtain ⟨g0, g1, g2, g3, g4, g5, g6, g7, g8, g9, g10⟩ := cells_I HY2.out
          go_wp2_with (first | (refine wpList_st (by rfl) 27 (.tmp 2) (.tmp 53) (by rfl) (w.heap.size + 1) Y.v (by rfl) (by rfl) 27 zeroI.v HZ2.out info27 rfl (by simp [Inp.v, iV, Value.oneCell']) ?_; intro w5 hst; have HST := hid hst; clear hst; refine Hid.out ?_))
          refine hid ?_
          go_wp2
          exact bodyPost_ret (res27 Try.f9 2 3 Try.results9 _ _ (w.heap.size + 1) Y.v _ (by rfl) (by rfl) HST.out.row info27) rfl ⟨HR9.out, HST.out.bel _ _ HW2.out (by omega)⟩
        · have hE := HEQ.out
          rw [if_neg hok] at hE
          have hI : upI k [a0, a1, a2, a3, a4, a5, a6] = zeroI := by unfold upI; rw [if_neg (by omega)]
          have HR9 := hid (HRES.out zeroI.v 40 (by rw [hI]) hE)
          clear hI hE
          by_cases hE0 : E = 0
          · subst hE0
            have q := eqFr_no K k b0 b1 b2 b3 b4 b5 b6 a0 a1 a2 a3 a4 a5 a6 (fun h => hok ⟨rfl, h.1, h.2⟩)
            clear hok
            have hp := PJ.out
            have ha := hp.a
            rw [List.take_length (l := L)] at ha
            have HRA := hid (show wr.heap[A]? = some (.cells Y.v 27 (0, 0)) by rw [HY.out] at ha; exact ha)
            have HR1 := hid hp.r0
            have HZ1 := hid hp.z
            have HW1 := hid hp.bel
            obtain ⟨c0, c1, c2, c3, c4, c5, c6, c7, c8, c9, c10⟩ := cells_I HRA.out
            clear hp ha PJ
            unfold Inp.v iV at PA
            go_wp2_with (first | (go_at_call 7; refine (PA.out _).mono ?_; rintro e w4 ⟨rfl, hb⟩; have HB4 := hid hb; clear hb; refine Hid.out ?_))
            have HR2 := hid (show (w4.alloc (.cells (frV K [b0, b1, b2, b3, b4, b5, b6]) 30)).heap[w.heap.size]? = some (.cells (frV k l) 30 (0, 0)) from row_on (row_on HR1.out HB4.out) (ball _ _))
            have HZ2 := hid (show (w4.alloc (.cells (frV K [b0, b1, b2, b3, b4, b5, b6]) 30)).heap[w.heap.size + 1]? = some (.cells zeroI.v 27 (0, 0)) from row_on (row_on HZ1.out HB4.out) (ball _ _))
            have HW2 := hid (show Below w.heap.size w (w4.alloc (.cells (frV K [b0, b1, b2, b3, b4, b5, b6]) 30)) from btr (btr HW1.out HB4.out) (ball _ _))
            have HY2 := hid (show (w4.alloc (.cells (frV K [b0, b1, b2, b3, b4, b5, b6]) 30)).heap[A]? = some (.cells Y.v 27 (0, 0)) from row_on (row_on HRA.out HB4.out) (ball _ _))
            have hfb : frV K [b0, b1, b2, b3, b4, b5, b6] = #[.int .u8 K, .int .u64 b0, .int .u64 b1, .int .u64 b2, .int .u64 b3, .int .u64 b4, .int .u64 b5, .int .u64 b6] := rfl
            rw [hfb] at HR2 HZ2 HW2 HY2
            rw [← HLL.out] at HR2
            clear HR1 HZ1 HW1 HRA HB4 PA hfb c0 c1 c2 c3 c4 c5 c6 c7 c8 c9 c10
            obtain ⟨d0, d1, d2, d3, d4, d5, d6, d7⟩ := cells_F HR2.out
            refine hid ?_
            go_wp2_with (first | (refine wpList_st (by rfl) 27 (.tmp 2) (.tmp 52) (by rfl) (w.heap.size + 1) zeroI.v (by rfl) (by rfl) 27 zeroI.v HZ2.out info27 rfl (by simp [zeroI, Inp.v, iV, Value.oneCell']) ?_; intro w5 hst; have HST := hid hst; clear hst; refine Hid.out ?_))
            refine hid ?_
            go_wp2
            exact bodyPost_ret (res27 Try.f9 2 3 Try.results9 _ _ (w.heap.size + 1) zeroI.v _ (by rfl) (by rfl) HST.out.row info27) rfl ⟨HR9.out, HST.out.bel _ _ HW2.out (by omega)⟩
          · have hnz : (E != 0) = true := by simpa using hE0
            clear hok hE0
            have hp := PJ.out
            have ha := hp.a
            rw [List.take_length (l := L)] at ha
            have HRA := hid (show wr.heap[A]? = some (.cells Y.v 27 (0, 0)) by rw [HY.out] at ha; exact ha)
            have HR1 := hid hp.r0
            have HZ1 := hid hp.z
            have HW1 := hid hp.bel
            obtain ⟨c0, c1, c2, c3, c4, c5, c6, c7, c8, c9, c10⟩ := cells_I HRA.out
            clear hp ha PJ
            unfold Inp.v iV at PA
            go_wp2_with (first | (go_at_call 7; refine (PA.out _).mono ?_; rintro e w4 ⟨rfl, hb⟩; have HB4 := hid hb; clear hb; refine Hid.out ?_))
            have HR2 := hid (show (w4.alloc (.cells (frV K [b0, b1, b2, b3, b4, b5, b6]) 30)).heap[w.heap.size]? = some (.cells (frV k l) 30 (0, 0)) from row_on (row_on HR1.out HB4.out) (ball _ _))
            have HZ2 := hid (show (w4.alloc (.cells (frV K [b0, b1, b2, b3, b4, b5, b6]) 30)).heap[w.heap.size + 1]? = some (.cells zeroI.v 27 (0, 0)) from row_on (row_on HZ1.out HB4.out) (ball _ _))
            have HW2 := hid (show Below w.heap.size w (w4.alloc (.cells (frV K [b0, b1, b2, b3, b4, b5, b6]) 30)) from btr (btr HW1.out HB4.out) (ball _ _))
            have HY2 := hid (show (w4.alloc (.cells (frV K [b0, b1, b2, b3, b4, b5, b6]) 30)).heap[A]? = some (.cells Y.v 27 (0, 0)) from row_on (row_on HRA.out HB4.out) (ball _ _))
            have hfb : frV K [b0, b1, b2, b3, b4, b5, b6] = #[.int .u8 K, .int .u64 b0, .int .u64 b1, .int .u64 b2, .int .u64 b3, .int .u64 b4, .int .u64 b5, .int .u64 b6] := rfl
            rw [hfb] at HR2 HZ2 HW2 HY2
            rw [← HLL.out] at HR2
            clear HR1 HZ1 HW1 HRA HB4 PA hfb c0 c1 c2 c3 c4 c5 c6 c7 c8 c9 c10
            obtain ⟨d0, d1, d2, d3, d4, d5, d6, d7⟩ := cells_F HR2.out
            refine hid ?_
            go_wp2_with (first | (refine wpList_st (by rfl) 27 (.tmp 2) (.tmp 52) (by rfl) (w.heap.size + 1) zeroI.v (by rfl) (by rfl) 27 zeroI.v HZ2.out info27 rfl (by simp [zeroI, Inp.v, iV, Value.oneCell']) ?_; intro w5 hst; have HST := hid hst; clear hst; refine Hid.out ?_))
            refine hid ?_
            go_wp2
            exact bodyPost_ret (res27 Try.f9 2 3 Try.results9 _ _ (w.heap.size + 1) zeroI.v _ (by rfl) (by rfl) HST.out.row info27) rfl ⟨HR9.out, HST.out.bel _ _ HW2.out (by omega)⟩
  · have hE : upE k [a0, a1, a2, a3, a4, a5, a6] = 41 := by unfold upE; rw [if_neg hin]
    have hI : upI k [a0, a1, a2, a3, a4, a5, a6] = zeroI := by unfold upI; rw [if_neg (by omega)]
    rw [hI, hE]
    have FN := hid (fun w => fields_no k hin w)
    have HZ := hid (heap2 w (.cells (frV k [a0, a1, a2, a3, a4, a5, a6]) 30) (.cells zeroI.v 27))
    have hfa : frV k [a0, a1, a2, a3, a4, a5, a6] = #[.int .u8 k, .int .u64 a0, .int .u64 a1, .int .u64 a2, .int .u64 a3, .int .u64 a4, .int .u64 a5, .int .u64 a6] := rfl
    rw [hfa]
    clear hfa hin hE hI ha
    go_enter Try.func9, Try.ntmps9
    go_wp2_with (first | (go_at_call 19; refine (FN.out _).mono ?_; rintro e w2 ⟨rfl, hb⟩; have HB2 := hid hb; clear hb; refine Hid.out ?_))
    have HZ2 := hid (row_on HZ.out HB2.out)
    have HW2 := hid (btr (btr (ball _ _) (ball _ _)) HB2.out)
    clear HZ HB2
    refine hid ?_
    go_wp2_with (first | (refine wpList_st (by rfl) 27 (.tmp 2) (.tmp 16) (by rfl) (w.heap.size + 1) zeroI.v (by rfl) (by rfl) 27 zeroI.v HZ2.out info27 rfl (by simp [zeroI, Inp.v, iV, Value.oneCell']) ?_; intro w5 hst; have HST := hid hst; clear hst; refine Hid.out ?_))
    refine hid ?_
    go_wp2
    exact bodyPost_ret (res27 Try.f9 2 3 Try.results9 _ _ (w.heap.size + 1) zeroI.v _ (by rfl) (by rfl) HST.out.row info27) rfl ⟨rfl, HST.out.bel _ _ HW2.out (by omega)⟩
end Go.Proofs.Ytnhipamajelalaa
