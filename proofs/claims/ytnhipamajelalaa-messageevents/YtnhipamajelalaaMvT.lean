/-
  The document's UnpackEvent.
-/
import Derived.Test.YtnhipamajelalaaMgT
import Derived.Test.YtnhipamajelalaaMvS
import Derived.Deep.RegionHeld3
import Derived.Deep.DrawnRows
namespace Go.Proofs.Ytnhipamajelalaa
open Go.RowKit Go.Maps Go.Deep Go.Lib
set_option linter.unusedVariables false
set_option linter.unusedSimpArgs false
attribute [local go_sem ↓] Go.wp_at_zero Go.wp_at_succ

structure UnE (w : World) (k : Int) (l : List Int) (q : Option Addr) (L : List Int) (A j : Nat) (wr : World) : Prop where
  r0 : wr.heap[w.heap.size]? = some (.cells (frV k l) 30 (0, 0))
  z : wr.heap[w.heap.size + 1]? = some (.cells zeroE.v 39 (0, 0))
  a : wr.heap[A]? = some (.cells (agnG (rdG k l) (k - 64) (L.take j)).v 39 (0, 0))
  s : Sf wr q k L
  bel : Below w.heap.size w wr
theorem UnE.below {w wr w' : World} {k : Int} {l : List Int} {q : Option Addr} {L : List Int} {A j : Nat} (h : UnE w k l q L A j wr) (hb : Below wr.heap.size wr w') : UnE w k l q L A j w' :=
  ⟨row_on h.r0 hb, row_on h.z hb, row_on h.a hb, h.s.on hb, btr h.bel hb⟩
theorem UnE.drew {w wr : World} {k : Int} {l : List Int} {q : Option Addr} {L : List Int} {A j : Nat} (h : UnE w k l q L A j wr) : UnE w k l q L A j wr.drew := h.below ⟨rfl, rfl, rfl, Nat.le_refl _, fun _ _ => rfl⟩
theorem UnE.next {w w2 W3 : World} {k : Int} {l : List Int} {qb qo : Nat} {L : List Int} {A j : Nat} (h : UnE w k l (some ⟨qb, qo, none⟩) L A j w2) (hs : St w2 A 39 (agnG (rdG k l) (k - 64) (L.take (j + 1))).v W3) (hWA : w.heap.size + 1 < A) (hq : qb < A) : UnE w k l (some ⟨qb, qo, none⟩) L A (j + 1) W3 := by
  refine ⟨(hs.oth _ (by omega)).trans h.r0, (hs.oth _ (by omega)).trans h.z, hs.row, ?_, hs.bel _ _ h.bel (by omega)⟩
  intro i hi
  obtain ⟨b, o', e, c0, c1, c2, c3⟩ := h.s i hi
  obtain ⟨rfl, rfl⟩ := addr_inj e
  have hc : ∀ j u, w2.cell? ⟨qb, j, none⟩ = some u → W3.cell? ⟨qb, j, none⟩ = some u := fun j u hu => hs.cell (by omega) hu
  exact ⟨qb, qo, rfl, hc _ _ c0, hc _ _ c1, hc _ _ c2, hc _ _ c3⟩
theorem UnE.cells {w wr : World} {k a0 a1 a2 a3 a4 a5 a6 : Int} {l : List Int} {qb qo : Nat} {L : List Int} {A j : Nat} {t : Int} (h : UnE w k l (some ⟨qb, qo, none⟩) L A j wr) (hl : [a0, a1, a2, a3, a4, a5, a6] = l) (hj : j < L.length) (ht : L[j] = t) : wr.cell? ⟨qb, qo + j * 4, none⟩ = some (.int .i64 t) ∧ wr.cell? ⟨qb, qo + j * 4 + 1, none⟩ = some (.int .u64 (most t)) ∧ wr.cell? ⟨qb, qo + j * 4 + 2, none⟩ = some (.int .i64 (plW k t)) ∧ wr.cell? ⟨qb, qo + j * 4 + 3, none⟩ = some (.int .i64 (plB t)) ∧ wr.cell? ⟨w.heap.size, 0, none⟩ = some (.int .u8 k) ∧ wr.cell? ⟨w.heap.size, 1, none⟩ = some (.int .u64 a0) ∧ wr.cell? ⟨w.heap.size, 2, none⟩ = some (.int .u64 a1) ∧ wr.cell? ⟨w.heap.size, 3, none⟩ = some (.int .u64 a2) ∧ wr.cell? ⟨w.heap.size, 4, none⟩ = some (.int .u64 a3) ∧ wr.cell? ⟨w.heap.size, 5, none⟩ = some (.int .u64 a4) ∧ wr.cell? ⟨w.heap.size, 6, none⟩ = some (.int .u64 a5) ∧ wr.cell? ⟨w.heap.size, 7, none⟩ = some (.int .u64 a6) := by
  obtain ⟨b, o, e, f0, f1, f2, f3⟩ := h.s j hj
  obtain ⟨rfl, rfl⟩ := addr_inj e
  have hr := h.r0
  rw [← hl] at hr
  obtain ⟨d0, d1, d2, d3, d4, d5, d6, d7⟩ := cells_F hr
  rw [ht] at f0 f1 f2 f3
  exact ⟨f0, f1, f2, f3, d0, d1, d2, d3, d4, d5, d6, d7⟩
theorem UnE.cells13 {w w2 : World} {k a0 a1 a2 a3 a4 a5 a6 : Int} {l : List Int} {qb qo : Nat} {L : List Int} {A j : Nat} {t : Int} (h : UnE w k l (some ⟨qb, qo, none⟩) L A j w2) (hl : [a0, a1, a2, a3, a4, a5, a6] = l) (hj : j < L.length) (ht : L[j] = t) (hWA : w.heap.size + 1 < A) (hq : qb < A) (y : Evt) (Wn : World) (hWn : (((((((((((((w2.setCell ⟨A, 0, none⟩ (.int .u64 y.sq)).setCell ⟨A, 1, none⟩ (.int .i64 y.kd)).setCell ⟨A, 2, none⟩ (.int .u64 y.id)).setCell ⟨A, 3, none⟩ (.int .u64 y.ot)).setCell ⟨A, 4, none⟩ (.int .u64 y.tg)).setCell ⟨A, 5, none⟩ (.int .u32 y.me)).setCell ⟨A, 6, none⟩ (.int .i64 y.si)).setCell ⟨A, 7, none⟩ (.int .i64 y.ty)).setCell ⟨A, 8, none⟩ (.int .i64 y.pr)).setCell ⟨A, 9, none⟩ (.int .u64 y.qt)).setCell ⟨A, 10, none⟩ (.int .u64 y.pe)).setCell ⟨A, 11, none⟩ (.int .i64 y.re)).setCell ⟨A, 12, none⟩ (.int .i64 y.co)) = Wn) : Wn.cell? ⟨qb, qo + j * 4, none⟩ = some (.int .i64 t) ∧ Wn.cell? ⟨qb, qo + j * 4 + 1, none⟩ = some (.int .u64 (most t)) ∧ Wn.cell? ⟨qb, qo + j * 4 + 2, none⟩ = some (.int .i64 (plW k t)) ∧ Wn.cell? ⟨qb, qo + j * 4 + 3, none⟩ = some (.int .i64 (plB t)) ∧ Wn.cell? ⟨w.heap.size, 0, none⟩ = some (.int .u8 k) ∧ Wn.cell? ⟨w.heap.size, 1, none⟩ = some (.int .u64 a0) ∧ Wn.cell? ⟨w.heap.size, 2, none⟩ = some (.int .u64 a1) ∧ Wn.cell? ⟨w.heap.size, 3, none⟩ = some (.int .u64 a2) ∧ Wn.cell? ⟨w.heap.size, 4, none⟩ = some (.int .u64 a3) ∧ Wn.cell? ⟨w.heap.size, 5, none⟩ = some (.int .u64 a4) ∧ Wn.cell? ⟨w.heap.size, 6, none⟩ = some (.int .u64 a5) ∧ Wn.cell? ⟨w.heap.size, 7, none⟩ = some (.int .u64 a6) := by
  obtain ⟨W, hW, hs⟩ := st13 w2 A _ y h.a
  rw [hW] at hWn
  subst hWn
  obtain ⟨f0, f1, f2, f3, d0, d1, d2, d3, d4, d5, d6, d7⟩ := h.cells hl hj ht
  have c1 : ∀ j u, w2.cell? ⟨qb, j, none⟩ = some u → W.cell? ⟨qb, j, none⟩ = some u := fun j u hu => hs.cell (by omega) hu
  have c2 : ∀ j u, w2.cell? ⟨w.heap.size, j, none⟩ = some u → W.cell? ⟨w.heap.size, j, none⟩ = some u := fun j u hu => hs.cell (by omega) hu
  exact ⟨c1 _ _ f0, c1 _ _ f1, c1 _ _ f2, c1 _ _ f3, c2 _ _ d0, c2 _ _ d1, c2 _ _ d2, c2 _ _ d3, c2 _ _ d4, c2 _ _ d5, c2 _ _ d6, c2 _ _ d7⟩
theorem agnG_step (f : Int → Int) (kd : Int) (L : List Int) (j : Nat) (h : j < L.length) : agnG f kd (L.take (j + 1)) = (agnG f kd (L.take j)).set L[j] (f L[j]) := by
  unfold agnG
  rw [List.take_succ_eq_append_getElem h, List.foldl_append]
  rfl
set_option maxHeartbeats 4000000 in
set_option maxRecDepth 100000 in
theorem runpackE_any (k a0 a1 a2 a3 a4 a5 a6 : Int) (hk0 : 0 ≤ k) (hk : k < 256) (ha : ∀ x ∈ [a0, a1, a2, a3, a4, a5, a6], Wd x) (w : World) :
    Calls Try.prog 13 #[.agg (frV k [a0, a1, a2, a3, a4, a5, a6])] w fun e w' => e = .returned (.tuple #[.agg (uqI k [a0, a1, a2, a3, a4, a5, a6]).v, .int .i64 (uqE k [a0, a1, a2, a3, a4, a5, a6])]) ∧ Below w.heap.size w w' := by
  by_cases hin : 65 ≤ k ∧ k ≤ 69
  · obtain ⟨h1, h4⟩ := hin
    have hE : uqE k [a0, a1, a2, a3, a4, a5, a6] = if (rdE k [a0, a1, a2, a3, a4, a5, a6]).e = 0 ∧ (rdE k [a0, a1, a2, a3, a4, a5, a6]).pk = k ∧ (rdE k [a0, a1, a2, a3, a4, a5, a6]).pw = [a0, a1, a2, a3, a4, a5, a6] then 0 else 40 := by unfold uqE; rw [if_pos ⟨h1, h4⟩]
    have FA := hid (fun w => told_any (k - 64) (by omega) (by omega) w)
    rw [show 64 + (k - 64) = k from by omega] at FA
    have hsb : wrap64 (k - 64) = k - 64 := by unfold wrap64; omega
    have hsb2 : IntKind.i64.wrap (k - 64) = k - 64 := by rw [IntKind.wrap_i64]; omega
    have TK := hid (fun t ht w => taken_any k [a0, a1, a2, a3, a4, a5, a6] rfl ha t ht w)
    have HIT := hid (show ∀ t, t ∈ tagsL k → EvTag t from fun t ht => ev_tag (k := k - 64) (by omega) (by omega) (by rw [show 64 + (k - 64) = k from by omega]; exact ht))
    have PA := hid (fun w => rpackE_any (rdE k [a0, a1, a2, a3, a4, a5, a6]) (rdE_ok k [a0, a1, a2, a3, a4, a5, a6]) (rdE_rg k [a0, a1, a2, a3, a4, a5, a6]) w)
    have hlen := tags_len k
    have hpos : 0 < (tagsL k).length := by
      obtain rfl | rfl | rfl | rfl | rfl : k = 65 ∨ k = 66 ∨ k = 67 ∨ k = 68 ∨ k = 69 := by omega
      all_goals simp [tagsL]
    have HR := hid (show ((w.alloc (.cells (frV k [a0, a1, a2, a3, a4, a5, a6]) 30)).alloc (.cells zeroE.v 39)).heap[w.heap.size]? = some (.cells (frV k [a0, a1, a2, a3, a4, a5, a6]) 30 (0, 0)) from row_on (heap_alloc_new _ _) (ball _ _))
    have HZ := hid (heap2 w (.cells (frV k [a0, a1, a2, a3, a4, a5, a6]) 30) (.cells zeroE.v 39))
    have HY0 := hid (show rdE k [a0, a1, a2, a3, a4, a5, a6] = agnG (rdG k [a0, a1, a2, a3, a4, a5, a6]) (k - 64) (tagsL k) from rfl)
    have hfa : frV k [a0, a1, a2, a3, a4, a5, a6] = #[.int .u8 k, .int .u64 a0, .int .u64 a1, .int .u64 a2, .int .u64 a3, .int .u64 a4, .int .u64 a5, .int .u64 a6] := rfl
    rw [hfa] at TK
    obtain ⟨Y, hY⟩ : ∃ y, rdE k [a0, a1, a2, a3, a4, a5, a6] = y := ⟨_, rfl⟩
    rw [hY] at PA hE HY0
    obtain ⟨L, hL⟩ : ∃ l, tagsL k = l := ⟨_, rfl⟩
    unfold FldP at FA
    rw [hL] at FA HIT hlen hpos TK HY0
    obtain ⟨l, hl⟩ : ∃ l, [a0, a1, a2, a3, a4, a5, a6] = l := ⟨_, rfl⟩
    rw [hl] at TK HY0
    have HY := hid HY0.out.symm
    have HLL := hid hl
    have HT3 := hid (show ∀ x, x = [a0, a1, a2, a3, a4, a5, a6] → x = l from fun x h => h.trans hl)
    obtain ⟨b0, b1, b2, b3, b4, b5, b6, hlb⟩ := list7 (pwE_len Y)
    obtain ⟨K, hK⟩ : ∃ y, Y.pk = y := ⟨_, rfl⟩
    obtain ⟨E, hEE⟩ : ∃ y, Y.e = y := ⟨_, rfl⟩
    have hfb0 : frV K [b0, b1, b2, b3, b4, b5, b6] = #[.int .u8 K, .int .u64 b0, .int .u64 b1, .int .u64 b2, .int .u64 b3, .int .u64 b4, .int .u64 b5, .int .u64 b6] := rfl
    rw [hlb, hK, hEE] at PA hE
    rw [hfb0] at PA
    have HEQ := hid hE
    have HYY := hid hY
    clear hlb hK hEE hfb0 hE hY HY0 h1 h4 ha hL HT3
    have HRES := hid (show ∀ (v : Array Value) (e : Int), (uqI k [a0, a1, a2, a3, a4, a5, a6]).v = v → uqE k [a0, a1, a2, a3, a4, a5, a6] = e → Ending.returned (.tuple #[.agg v, .int .i64 e]) = Ending.returned (.tuple #[.agg (uqI k [a0, a1, a2, a3, a4, a5, a6]).v, .int .i64 (uqE k [a0, a1, a2, a3, a4, a5, a6])]) from fun v e h1 h2 => by rw [h1, h2])
    rw [hfa]
    clear hfa
    go_enter Try.func13, Try.ntmps13
    go_wp2_with (first | (go_at_call 28; refine (FA.out _).mono ?_; rintro e w4 ⟨q, cap, rfl, hS, hb⟩; have HS2 := hid hS; have HB2 := hid hb; clear hS hb; refine Hid.out ?_))
    have HR2 := hid (row_on HR.out HB2.out)
    have HZ2 := hid (row_on HZ.out HB2.out)
    have HW2 := hid (btr (btr (ball _ _) (ball _ _)) HB2.out)
    have hne : ((L.length : Int) == 0) = false := by
      have : ¬ (L.length : Int) = 0 := by omega
      simpa using this
    have k0 : w4.cell? ⟨w.heap.size, 0, none⟩ = some (.int .u8 k) := row_cell HR2.out 0
    have PK := hid (show UnE w k l q L w4.heap.size 0 (w4.alloc (.cells (bareE (k - 64)).v 39)) from ⟨by rw [← HLL.out]; exact row_on HR2.out (ball _ _), row_on HZ2.out (ball _ _), heap_alloc_new _ _, HS2.out.on (ball _ _), btr HW2.out (ball _ _)⟩)
    have HQ := hid (show ∀ b o, q = some ⟨b, o, none⟩ → b < w4.heap.size from fun b o e => by
      obtain ⟨b', o', e', hc, _⟩ := HS2.out 0 hpos
      rw [e'] at e
      simp at e
      rw [← e.1]
      exact cell_lt hc)
    have HWA := hid (show w.heap.size + 1 < w4.heap.size from row_lt HZ2.out)
    clear HR HZ FA HB2 HR2 HZ2 HW2 HS2
    refine hid ?_
    go_wp2
    unfold Evt.v eV at PK
    obtain ⟨W5, hW5⟩ : ∃ y, w4.alloc (.cells #[.int .u64 0, .int .i64 (k - 64), .int .u64 0, .int .u64 0, .int .u64 0, .int .u32 0, .int .i64 0, .int .i64 0, .int .i64 0, .int .u64 0, .int .u64 0, .int .i64 0, .int .i64 0] 39) = y := ⟨_, rfl⟩
    have PK2 := hid (show UnE w k l q L w4.heap.size 0 W5 from hW5 ▸ PK.out)
    obtain ⟨A, hA⟩ : ∃ y, w4.heap.size = y := ⟨_, rfl⟩
    rw [hA] at PK2
    rw [hA] at HQ HWA
    rw [hW5, hA]
    clear hW5 hA k0 PK
    go_loopw [6] (fun iv wr => ∃ j : Nat, j ≤ L.length ∧ iv = .int .i64 j ∧ UnE w k l q L A j wr) (fun iv _ => L.length - (intOf iv).toNat)
    case atStart => exact ⟨0, Nat.zero_le _, rfl, PK2.out⟩
    case round =>
      obtain ⟨j, hj, rfl, hpk⟩ := hrel
      have PJ := hid hpk
      clear hpk PK2
      by_cases hjl : j < L.length
      · have hjl' : (j : Int) < (L.length : Int) := by omega
        have hj0 : (0 : Int) ≤ (j : Int) := by omega
        obtain ⟨qb, qo, rfl, f0, f1, f2, f3⟩ := PJ.out.s j hjl
        have HAG := hid (agnG_step (rdG k l) (k - 64) L j hjl)
        have HT := hid (HIT.out L[j] (List.getElem_mem hjl))
        have HTM := hid (List.getElem_mem hjl)
        obtain ⟨t, ht⟩ : ∃ t, L[j] = t := ⟨_, rfl⟩
        rw [ht] at f0 f1 f2 f3 HAG HT HTM
        have HTT := hid ht
        clear ht
        have TKt := hid (fun w => TK.out t HTM.out w)
        have WI := hid (fun w => withE_any (agnG (rdG k l) (k - 64) (L.take j)) t (rdG k l t) HT.out w)
        have HPA := hid PJ.out.a
        obtain ⟨X, hX⟩ : ∃ y, rdG k l t = y := ⟨_, rfl⟩
        obtain ⟨Y0, hY0⟩ : ∃ y, agnG (rdG k l) (k - 64) (L.take j) = y := ⟨_, rfl⟩
        obtain ⟨Y1, hY1⟩ : ∃ y, Y0.set t X = y := ⟨_, rfl⟩
        rw [hX] at TKt
        rw [hX, hY0, hY1] at WI HAG
        rw [hY0] at HPA
        have HYY0 := hid hY0
        clear hX hY0 hY1
        unfold Evt.v eV at WI
        obtain ⟨c0, c1, c2, c3, c4, c5, c6, c7, c8, c9, c10, c11, c12⟩ := cells_E HPA.out
        have hr0 := PJ.out.r0
        rw [← HLL.out] at hr0
        obtain ⟨d0, d1, d2, d3, d4, d5, d6, d7⟩ := cells_F hr0
        clear hr0
        go_wp2
        refine wp_region_held_drew (S := (fun w' => w'.cell? ⟨qb, qo + j * 4, none⟩ = some (.int .i64 t) ∧ w'.cell? ⟨qb, qo + j * 4 + 1, none⟩ = some (.int .u64 (most t)) ∧ w'.cell? ⟨qb, qo + j * 4 + 2, none⟩ = some (.int .i64 (plW k t)) ∧ w'.cell? ⟨qb, qo + j * 4 + 3, none⟩ = some (.int .i64 (plB t)) ∧ w'.cell? ⟨w.heap.size, 0, none⟩ = some (.int .u8 k) ∧ w'.cell? ⟨w.heap.size, 1, none⟩ = some (.int .u64 a0) ∧ w'.cell? ⟨w.heap.size, 2, none⟩ = some (.int .u64 a1) ∧ w'.cell? ⟨w.heap.size, 3, none⟩ = some (.int .u64 a2) ∧ w'.cell? ⟨w.heap.size, 4, none⟩ = some (.int .u64 a3) ∧ w'.cell? ⟨w.heap.size, 5, none⟩ = some (.int .u64 a4) ∧ w'.cell? ⟨w.heap.size, 6, none⟩ = some (.int .u64 a5) ∧ w'.cell? ⟨w.heap.size, 7, none⟩ = some (.int .u64 a6))) (by kernel_rfl) ?hS0 (fun hHeld => ?_)
        case hS0 => exact PJ.out.drew.cells HLL.out hjl HTT.out
        refine wpAnyH_take (i := 1) (v := ?v1) rfl (by kernel_rfl) (by kernel_rfl) (by kernel_rfl) (fun _ _ _ h => h) (Or.inl ⟨by rfl, ?hy1⟩) hHeld ?rest1
        case hy1 => intro w0 hSw; (try dsimp only at hSw); go_simp; first | done | with_reducible rfl
        try simp only [Act.put, List.setIfInBounds_toArray, List.set_cons_zero, List.set_cons_succ]
        refine wpAnyH_take (i := 2) (v := ?v2) rfl (by kernel_rfl) (by kernel_rfl) (by kernel_rfl) (fun _ _ _ h => h) (Or.inl ⟨by rfl, ?hy2⟩) hHeld ?rest2
        case hy2 => intro w0 hSw; (try dsimp only at hSw); go_simp; first | done | with_reducible rfl
        try simp only [Act.put, List.setIfInBounds_toArray, List.set_cons_zero, List.set_cons_succ]
        refine wpAnyH_take (i := 3) (v := ?v3) rfl (by kernel_rfl) (by kernel_rfl) (by kernel_rfl) (fun _ _ _ h => h) (Or.inl ⟨by rfl, ?hy3⟩) hHeld ?rest3
        case hy3 => intro w0 hSw; (try dsimp only at hSw); go_simp; first | done | with_reducible rfl
        try simp only [Act.put, List.setIfInBounds_toArray, List.set_cons_zero, List.set_cons_succ]
        refine wpAnyH_take (i := 4) (v := ?v4) rfl (by kernel_rfl) (by kernel_rfl) (by kernel_rfl) (fun _ _ _ h => h) (Or.inl ⟨by rfl, ?hy4⟩) hHeld ?rest4
        case hy4 => intro w0 hSw; (try dsimp only at hSw); go_simp; first | done | with_reducible rfl
        try simp only [Act.put, List.setIfInBounds_toArray, List.set_cons_zero, List.set_cons_succ]
        refine wpAnyH_take (i := 5) (v := ?v5) rfl (by kernel_rfl) (by kernel_rfl) (by kernel_rfl) (fun _ _ _ h => h) (Or.inl ⟨by rfl, ?hy5⟩) hHeld ?rest5
        case hy5 => intro w0 hSw; (try dsimp only at hSw); go_simp; first | done | with_reducible rfl
        try simp only [Act.put, List.setIfInBounds_toArray, List.set_cons_zero, List.set_cons_succ]
        refine wpAnyH_take (i := 6) (v := ?v6) rfl (by kernel_rfl) (by kernel_rfl) (by kernel_rfl) (fun _ _ _ h => h) (Or.inl ⟨by rfl, ?hy6⟩) hHeld ?rest6
        case hy6 => intro w0 hSw; (try dsimp only at hSw); go_simp; first | done | with_reducible rfl
        try simp only [Act.put, List.setIfInBounds_toArray, List.set_cons_zero, List.set_cons_succ]
        refine wpAnyH_take (i := 7) (v := ?v7) rfl (by kernel_rfl) (by kernel_rfl) (by kernel_rfl) (fun _ _ _ h => h) (Or.inl ⟨by rfl, ?hy7⟩) hHeld ?rest7
        case hy7 => intro w0 hSw; (try dsimp only at hSw); go_simp; first | done | with_reducible rfl
        try simp only [Act.put, List.setIfInBounds_toArray, List.set_cons_zero, List.set_cons_succ]
        refine wpAnyH_take (i := 8) (v := ?v8) rfl (by kernel_rfl) (by kernel_rfl) (by kernel_rfl) (fun _ _ _ h => h) (Or.inl ⟨by rfl, ?hy8⟩) hHeld ?rest8
        case hy8 => intro w0 hSw; (try dsimp only at hSw); go_simp; first | done | with_reducible rfl
        try simp only [Act.put, List.setIfInBounds_toArray, List.set_cons_zero, List.set_cons_succ]
        refine wpAnyH_take (i := 9) (v := ?v9) rfl (by kernel_rfl) (by kernel_rfl) (by kernel_rfl) (fun _ _ _ h => h) (Or.inl ⟨by rfl, ?hy9⟩) hHeld ?rest9
        case hy9 => intro w0 hSw; (try dsimp only at hSw); go_simp; first | done | with_reducible rfl
        try simp only [Act.put, List.setIfInBounds_toArray, List.set_cons_zero, List.set_cons_succ]
        refine wpAnyH_take (i := 10) (v := ?v10) rfl (by kernel_rfl) (by kernel_rfl) (by kernel_rfl) (fun _ _ _ h => h) (Or.inl ⟨by rfl, ?hy10⟩) hHeld ?rest10
        case hy10 => intro w0 hSw; (try dsimp only at hSw); go_simp; first | done | with_reducible rfl
        try simp only [Act.put, List.setIfInBounds_toArray, List.set_cons_zero, List.set_cons_succ]
        refine wpAnyH_ready (rs := [0, 11]) (by kernel_rfl) (by simp) ?_
        refine AllReadyH.cons (o := { dst := some 29, op := Op.load 39 (Operand.tmp 5), type := 39, pos := "ref.go:292", after := #[], guard := none }) rfl (fun K hK => ?_) (AllReadyH.cons (o := { dst := some 40, op := Op.call { callee := Callee.value (Operand.func 25), args := #[Operand.tmp 35, Operand.tmp 39], argTypes := #[30, 63] }, type := 22, pos := "ref.go:292", after := #[{ on := 6, ground := Ground.data }, { on := 10, ground := Ground.data }], guard := none }) rfl (fun K hK => ?_) AllReadyH.nil)
        rotate_left
        go_simp
        go_at_call 25; refine (TKt.out wr.drew).mono ?_; rintro e w1 ⟨rfl, hb⟩; have P1 := hid (PJ.out.drew.below (w' := w1) hb); obtain ⟨_, _, he1, g0, _, _, _⟩ := P1.out.s j hjl; obtain ⟨rfl, rfl⟩ := addr_inj he1; rw [HTT.out] at g0; have HP1 := hid (show w1.heap[A]? = some (.cells Y0.v 39 (0, 0)) from HYY0.out ▸ P1.out.a); obtain ⟨e0, e1, e2, e3, e4, e5, e6, e7, e8, e9, e10, e11, e12⟩ := cells_E HP1.out; clear hb he1
        refine hK.out _ _ ?hS11 (fun hHeld => ?_)
        case hS11 => (first | with_reducible exact PJ.out.drew.cells HLL.out hjl HTT.out | with_reducible exact P1.out.cells HLL.out hjl HTT.out | with_reducible exact P2.out.cells HLL.out hjl HTT.out | with_reducible exact P2.out.cells13 HLL.out hjl HTT.out HWA.out (HQ.out _ _ rfl) Y1 _ rfl)
        clear hK K
        try simp only [Act.put, List.setIfInBounds_toArray, List.set_cons_zero, List.set_cons_succ]
        refine wpAnyH_ready (rs := [0]) (by kernel_rfl) (by simp) ?_
        refine AllReadyH.cons (o := { dst := some 29, op := Op.load 39 (Operand.tmp 5), type := 39, pos := "ref.go:292", after := #[], guard := none }) rfl (fun K hK => ?_) AllReadyH.nil
        go_simp
        refine hK.out _ _ ?hS12 (fun hHeld => ?_)
        case hS12 => (first | with_reducible exact PJ.out.drew.cells HLL.out hjl HTT.out | with_reducible exact P1.out.cells HLL.out hjl HTT.out | with_reducible exact P2.out.cells HLL.out hjl HTT.out | with_reducible exact P2.out.cells13 HLL.out hjl HTT.out HWA.out (HQ.out _ _ rfl) Y1 _ rfl)
        clear hK K
        try simp only [Act.put, List.setIfInBounds_toArray, List.set_cons_zero, List.set_cons_succ]
        refine wpAnyH_ready (rs := [12]) (by kernel_rfl) (by simp) ?_
        refine AllReadyH.cons (o := { dst := some 41, op := Op.call { callee := Callee.value (Operand.func 31), args := #[Operand.tmp 29, Operand.tmp 34, Operand.tmp 40], argTypes := #[39, 3, 22] }, type := 39, pos := "ref.go:292", after := #[{ on := 0, ground := Ground.data }, { on := 5, ground := Ground.data }, { on := 11, ground := Ground.data }, { on := 11, ground := Ground.chain }], guard := none }) rfl (fun K hK => ?_) AllReadyH.nil
        go_simp
        go_at_call 31; refine (WI.out w1).mono ?_; rintro e w2 ⟨rfl, hb⟩; have P2 := hid (P1.out.below (w' := w2) hb); have HP2 := hid (show w2.heap[A]? = some (.cells Y0.v 39 (0, 0)) from HYY0.out ▸ P2.out.a); obtain ⟨y0, y1, y2, y3, y4, y5, y6, y7, y8, y9, y10, y11, y12⟩ := cells_E HP2.out; obtain ⟨z0, z1, z2, z3, z4, z5, z6, z7, z8, z9, z10, z11, z12⟩ := frz_E HP2.out; clear hb
        refine hK.out _ _ ?hS13 (fun hHeld => ?_)
        case hS13 => (first | with_reducible exact PJ.out.drew.cells HLL.out hjl HTT.out | with_reducible exact P1.out.cells HLL.out hjl HTT.out | with_reducible exact P2.out.cells HLL.out hjl HTT.out | with_reducible exact P2.out.cells13 HLL.out hjl HTT.out HWA.out (HQ.out _ _ rfl) Y1 _ rfl)
        clear hK K
        try simp only [Act.put, List.setIfInBounds_toArray, List.set_cons_zero, List.set_cons_succ]
        refine wpAnyH_ready (rs := [13]) (by kernel_rfl) (by simp) ?_
        refine AllReadyH.cons (o := { dst := none, op := Op.store 39 (Operand.tmp 5) (Operand.tmp 41), type := 0, pos := "ref.go:292", after := #[{ on := 12, ground := Ground.data }, { on := 12, ground := Ground.chain }, { on := 0, ground := Ground.phase }, { on := 1, ground := Ground.phase }, { on := 2, ground := Ground.phase }, { on := 3, ground := Ground.phase }, { on := 4, ground := Ground.phase }, { on := 5, ground := Ground.phase }, { on := 6, ground := Ground.phase }, { on := 7, ground := Ground.phase }, { on := 8, ground := Ground.phase }, { on := 9, ground := Ground.phase }, { on := 10, ground := Ground.phase }, { on := 11, ground := Ground.phase }, { on := 12, ground := Ground.phase }], guard := none }) rfl (fun K hK => ?_) AllReadyH.nil
        go_simp
        refine hK.out _ _ ?hS14 (fun hHeld => ?_)
        case hS14 => (first | with_reducible exact PJ.out.drew.cells HLL.out hjl HTT.out | with_reducible exact P1.out.cells HLL.out hjl HTT.out | with_reducible exact P2.out.cells HLL.out hjl HTT.out | with_reducible exact P2.out.cells13 HLL.out hjl HTT.out HWA.out (HQ.out _ _ rfl) Y1 _ rfl)
        clear hK K
        try simp only [Act.put, List.setIfInBounds_toArray, List.set_cons_zero, List.set_cons_succ]
        refine wpAnyH_done (by kernel_rfl) ?_ _
        rotate_left
        go_simp
        refine hK.out _ _ ?hS15 (fun hHeld => ?_)
        case hS15 => (first | with_reducible exact PJ.out.drew.cells HLL.out hjl HTT.out | with_reducible exact P1.out.cells HLL.out hjl HTT.out | with_reducible exact P2.out.cells HLL.out hjl HTT.out | with_reducible exact P2.out.cells13 HLL.out hjl HTT.out HWA.out (HQ.out _ _ rfl) Y1 _ rfl)
        clear hK K
        try simp only [Act.put, List.setIfInBounds_toArray, List.set_cons_zero, List.set_cons_succ]
        refine wpAnyH_ready (rs := [11]) (by kernel_rfl) (by simp) ?_
        refine AllReadyH.cons (o := { dst := some 40, op := Op.call { callee := Callee.value (Operand.func 25), args := #[Operand.tmp 35, Operand.tmp 39], argTypes := #[30, 63] }, type := 22, pos := "ref.go:292", after := #[{ on := 6, ground := Ground.data }, { on := 10, ground := Ground.data }], guard := none }) rfl (fun K hK => ?_) AllReadyH.nil
        go_simp
        go_at_call 25; refine (TKt.out wr.drew).mono ?_; rintro e w1 ⟨rfl, hb⟩; have P1 := hid (PJ.out.drew.below (w' := w1) hb); obtain ⟨_, _, he1, g0, _, _, _⟩ := P1.out.s j hjl; obtain ⟨rfl, rfl⟩ := addr_inj he1; rw [HTT.out] at g0; have HP1 := hid (show w1.heap[A]? = some (.cells Y0.v 39 (0, 0)) from HYY0.out ▸ P1.out.a); obtain ⟨e0, e1, e2, e3, e4, e5, e6, e7, e8, e9, e10, e11, e12⟩ := cells_E HP1.out; clear hb he1
        refine hK.out _ _ ?hS16 (fun hHeld => ?_)
        case hS16 => (first | with_reducible exact PJ.out.drew.cells HLL.out hjl HTT.out | with_reducible exact P1.out.cells HLL.out hjl HTT.out | with_reducible exact P2.out.cells HLL.out hjl HTT.out | with_reducible exact P2.out.cells13 HLL.out hjl HTT.out HWA.out (HQ.out _ _ rfl) Y1 _ rfl)
        clear hK K
        try simp only [Act.put, List.setIfInBounds_toArray, List.set_cons_zero, List.set_cons_succ]
        refine wpAnyH_ready (rs := [12]) (by kernel_rfl) (by simp) ?_
        refine AllReadyH.cons (o := { dst := some 41, op := Op.call { callee := Callee.value (Operand.func 31), args := #[Operand.tmp 29, Operand.tmp 34, Operand.tmp 40], argTypes := #[39, 3, 22] }, type := 39, pos := "ref.go:292", after := #[{ on := 0, ground := Ground.data }, { on := 5, ground := Ground.data }, { on := 11, ground := Ground.data }, { on := 11, ground := Ground.chain }], guard := none }) rfl (fun K hK => ?_) AllReadyH.nil
        go_simp
        go_at_call 31; refine (WI.out w1).mono ?_; rintro e w2 ⟨rfl, hb⟩; have P2 := hid (P1.out.below (w' := w2) hb); have HP2 := hid (show w2.heap[A]? = some (.cells Y0.v 39 (0, 0)) from HYY0.out ▸ P2.out.a); obtain ⟨y0, y1, y2, y3, y4, y5, y6, y7, y8, y9, y10, y11, y12⟩ := cells_E HP2.out; obtain ⟨z0, z1, z2, z3, z4, z5, z6, z7, z8, z9, z10, z11, z12⟩ := frz_E HP2.out; clear hb
        refine hK.out _ _ ?hS17 (fun hHeld => ?_)
        case hS17 => (first | with_reducible exact PJ.out.drew.cells HLL.out hjl HTT.out | with_reducible exact P1.out.cells HLL.out hjl HTT.out | with_reducible exact P2.out.cells HLL.out hjl HTT.out | with_reducible exact P2.out.cells13 HLL.out hjl HTT.out HWA.out (HQ.out _ _ rfl) Y1 _ rfl)
        clear hK K
        try simp only [Act.put, List.setIfInBounds_toArray, List.set_cons_zero, List.set_cons_succ]
        refine wpAnyH_ready (rs := [13]) (by kernel_rfl) (by simp) ?_
        refine AllReadyH.cons (o := { dst := none, op := Op.store 39 (Operand.tmp 5) (Operand.tmp 41), type := 0, pos := "ref.go:292", after := #[{ on := 12, ground := Ground.data }, { on := 12, ground := Ground.chain }, { on := 0, ground := Ground.phase }, { on := 1, ground := Ground.phase }, { on := 2, ground := Ground.phase }, { on := 3, ground := Ground.phase }, { on := 4, ground := Ground.phase }, { on := 5, ground := Ground.phase }, { on := 6, ground := Ground.phase }, { on := 7, ground := Ground.phase }, { on := 8, ground := Ground.phase }, { on := 9, ground := Ground.phase }, { on := 10, ground := Ground.phase }, { on := 11, ground := Ground.phase }, { on := 12, ground := Ground.phase }], guard := none }) rfl (fun K hK => ?_) AllReadyH.nil
        go_simp
        refine hK.out _ _ ?hS18 (fun hHeld => ?_)
        case hS18 => (first | with_reducible exact PJ.out.drew.cells HLL.out hjl HTT.out | with_reducible exact P1.out.cells HLL.out hjl HTT.out | with_reducible exact P2.out.cells HLL.out hjl HTT.out | with_reducible exact P2.out.cells13 HLL.out hjl HTT.out HWA.out (HQ.out _ _ rfl) Y1 _ rfl)
        clear hK K
        try simp only [Act.put, List.setIfInBounds_toArray, List.set_cons_zero, List.set_cons_succ]
        refine wpAnyH_done (by kernel_rfl) ?_ _
        all_goals
          obtain ⟨W3, hW3, hST⟩ := st13 w2 A _ Y1 HP2.out
          rw [← HAG.out] at hST
          have PN := hid (P2.out.next hST HWA.out (HQ.out _ _ rfl))
          clear hST z0 z1 z2 z3 z4 z5 z6 z7 z8 z9 z10 z11 z12 y0 y1 y2 y3 y4 y5 y6 y7 y8 y9 y10 y11 y12 e0 e1 e2 e3 e4 e5 e6 e7 e8 e9 e10 e11 e12
          rw [hW3]
          clear hW3
          go_wp2
          go_roundw
          case rel => exact ⟨j + 1, by omega, by go_num, PN.out⟩
          case measure => simp [intOf]; omega
      · have hje : j = L.length := by omega
        subst hje
        by_cases hok : E = 0 ∧ K = k ∧ [b0, b1, b2, b3, b4, b5, b6] = [a0, a1, a2, a3, a4, a5, a6]
        · have hE := HEQ.out
          rw [if_pos hok] at hE
          have hI : uqI k [a0, a1, a2, a3, a4, a5, a6] = Y := by unfold uqI; rw [if_pos hE, HYY.out]
          have HR9 := hid (HRES.out Y.v 0 (by rw [hI]) hE)
          obtain ⟨rfl, rfl, hw⟩ := hok
          obtain ⟨rfl, rfl, rfl, rfl, rfl, rfl, rfl⟩ : b0 = a0 ∧ b1 = a1 ∧ b2 = a2 ∧ b3 = a3 ∧ b4 = a4 ∧ b5 = a5 ∧ b6 = a6 := by simpa using hw
          have q := eqFr_same K b0 b1 b2 b3 b4 b5 b6
          clear hE hI hw
          have hp := PJ.out
          have ha := hp.a
          rw [List.take_length (l := L)] at ha
          have HRA := hid (show wr.heap[A]? = some (.cells Y.v 39 (0, 0)) by rw [HY.out] at ha; exact ha)
          have HR1 := hid hp.r0
          have HZ1 := hid hp.z
          have HW1 := hid hp.bel
          obtain ⟨c0, c1, c2, c3, c4, c5, c6, c7, c8, c9, c10, c11, c12⟩ := cells_E HRA.out
          clear hp ha PJ
          unfold Evt.v eV at PA
          go_wp2_with (first | (go_at_call 11; refine (PA.out _).mono ?_; rintro e w4 ⟨rfl, hb⟩; have HB4 := hid hb; clear hb; refine Hid.out ?_))
          have HR2 := hid (show (w4.alloc (.cells (frV K [b0, b1, b2, b3, b4, b5, b6]) 30)).heap[w.heap.size]? = some (.cells (frV K l) 30 (0, 0)) from row_on (row_on HR1.out HB4.out) (ball _ _))
          have HZ2 := hid (show (w4.alloc (.cells (frV K [b0, b1, b2, b3, b4, b5, b6]) 30)).heap[w.heap.size + 1]? = some (.cells zeroE.v 39 (0, 0)) from row_on (row_on HZ1.out HB4.out) (ball _ _))
          have HW2 := hid (show Below w.heap.size w (w4.alloc (.cells (frV K [b0, b1, b2, b3, b4, b5, b6]) 30)) from btr (btr HW1.out HB4.out) (ball _ _))
          have HY2 := hid (show (w4.alloc (.cells (frV K [b0, b1, b2, b3, b4, b5, b6]) 30)).heap[A]? = some (.cells Y.v 39 (0, 0)) from row_on (row_on HRA.out HB4.out) (ball _ _))
          have hfb : frV K [b0, b1, b2, b3, b4, b5, b6] = #[.int .u8 K, .int .u64 b0, .int .u64 b1, .int .u64 b2, .int .u64 b3, .int .u64 b4, .int .u64 b5, .int .u64 b6] := rfl
          rw [hfb] at HR2 HZ2 HW2 HY2
          rw [← HLL.out] at HR2
          clear HR1 HZ1 HW1 HRA HB4 PA hfb c0 c1 c2 c3 c4 c5 c6 c7 c8 c9 c10 c11 c12
          obtain ⟨d0, d1, d2, d3, d4, d5, d6, d7⟩ := cells_F HR2.out
          refine hid ?_
          obtain ⟨g0, g1, g2, g3, g4, g5, g6, g7, g8, g9, g10, g11, g12⟩ := cells_E HY2.out
          go_wp2_with (first | (refine wpList_st (by rfl) 39 (.tmp 2) (.tmp 55) (by rfl) (w.heap.size + 1) Y.v (by rfl) (by rfl) 39 zeroE.v HZ2.out info39 rfl (by simp [Evt.v, eV, Value.oneCell']) ?_; intro w5 hst; have HST := hid hst; clear hst; refine Hid.out ?_))
          refine hid ?_
          go_wp2
          exact bodyPost_ret (res39 Try.f13 2 3 Try.results13 _ _ (w.heap.size + 1) Y.v _ (by rfl) (by rfl) HST.out.row info39) rfl ⟨HR9.out, HST.out.bel _ _ HW2.out (by omega)⟩
        · have hE := HEQ.out
          rw [if_neg hok] at hE
          have hI : uqI k [a0, a1, a2, a3, a4, a5, a6] = zeroE := by unfold uqI; rw [if_neg (by omega)]
          have HR9 := hid (HRES.out zeroE.v 40 (by rw [hI]) hE)
          clear hI hE
          by_cases hE0 : E = 0
          · subst hE0
            have q := eqFr_no K k b0 b1 b2 b3 b4 b5 b6 a0 a1 a2 a3 a4 a5 a6 (fun h => hok ⟨rfl, h.1, h.2⟩)
            clear hok
            have hp := PJ.out
            have ha := hp.a
            rw [List.take_length (l := L)] at ha
            have HRA := hid (show wr.heap[A]? = some (.cells Y.v 39 (0, 0)) by rw [HY.out] at ha; exact ha)
            have HR1 := hid hp.r0
            have HZ1 := hid hp.z
            have HW1 := hid hp.bel
            obtain ⟨c0, c1, c2, c3, c4, c5, c6, c7, c8, c9, c10, c11, c12⟩ := cells_E HRA.out
            clear hp ha PJ
            unfold Evt.v eV at PA
            go_wp2_with (first | (go_at_call 11; refine (PA.out _).mono ?_; rintro e w4 ⟨rfl, hb⟩; have HB4 := hid hb; clear hb; refine Hid.out ?_))
            have HR2 := hid (show (w4.alloc (.cells (frV K [b0, b1, b2, b3, b4, b5, b6]) 30)).heap[w.heap.size]? = some (.cells (frV k l) 30 (0, 0)) from row_on (row_on HR1.out HB4.out) (ball _ _))
            have HZ2 := hid (show (w4.alloc (.cells (frV K [b0, b1, b2, b3, b4, b5, b6]) 30)).heap[w.heap.size + 1]? = some (.cells zeroE.v 39 (0, 0)) from row_on (row_on HZ1.out HB4.out) (ball _ _))
            have HW2 := hid (show Below w.heap.size w (w4.alloc (.cells (frV K [b0, b1, b2, b3, b4, b5, b6]) 30)) from btr (btr HW1.out HB4.out) (ball _ _))
            have HY2 := hid (show (w4.alloc (.cells (frV K [b0, b1, b2, b3, b4, b5, b6]) 30)).heap[A]? = some (.cells Y.v 39 (0, 0)) from row_on (row_on HRA.out HB4.out) (ball _ _))
            have hfb : frV K [b0, b1, b2, b3, b4, b5, b6] = #[.int .u8 K, .int .u64 b0, .int .u64 b1, .int .u64 b2, .int .u64 b3, .int .u64 b4, .int .u64 b5, .int .u64 b6] := rfl
            rw [hfb] at HR2 HZ2 HW2 HY2
            rw [← HLL.out] at HR2
            clear HR1 HZ1 HW1 HRA HB4 PA hfb c0 c1 c2 c3 c4 c5 c6 c7 c8 c9 c10 c11 c12
            obtain ⟨d0, d1, d2, d3, d4, d5, d6, d7⟩ := cells_F HR2.out
            refine hid ?_
            go_wp2_with (first | (refine wpList_st (by rfl) 39 (.tmp 2) (.tmp 54) (by rfl) (w.heap.size + 1) zeroE.v (by rfl) (by rfl) 39 zeroE.v HZ2.out info39 rfl (by simp [zeroE, Evt.v, eV, Value.oneCell']) ?_; intro w5 hst; have HST := hid hst; clear hst; refine Hid.out ?_))
            refine hid ?_
            go_wp2
            exact bodyPost_ret (res39 Try.f13 2 3 Try.results13 _ _ (w.heap.size + 1) zeroE.v _ (by rfl) (by rfl) HST.out.row info39) rfl ⟨HR9.out, HST.out.bel _ _ HW2.out (by omega)⟩
          · have hnz : (E != 0) = true := by simpa using hE0
            clear hok hE0
            have hp := PJ.out
            have ha := hp.a
            rw [List.take_length (l := L)] at ha
            have HRA := hid (show wr.heap[A]? = some (.cells Y.v 39 (0, 0)) by rw [HY.out] at ha; exact ha)
            have HR1 := hid hp.r0
            have HZ1 := hid hp.z
            have HW1 := hid hp.bel
            obtain ⟨c0, c1, c2, c3, c4, c5, c6, c7, c8, c9, c10, c11, c12⟩ := cells_E HRA.out
            clear hp ha PJ
            unfold Evt.v eV at PA
            go_wp2_with (first | (go_at_call 11; refine (PA.out _).mono ?_; rintro e w4 ⟨rfl, hb⟩; have HB4 := hid hb; clear hb; refine Hid.out ?_))
            have HR2 := hid (show (w4.alloc (.cells (frV K [b0, b1, b2, b3, b4, b5, b6]) 30)).heap[w.heap.size]? = some (.cells (frV k l) 30 (0, 0)) from row_on (row_on HR1.out HB4.out) (ball _ _))
            have HZ2 := hid (show (w4.alloc (.cells (frV K [b0, b1, b2, b3, b4, b5, b6]) 30)).heap[w.heap.size + 1]? = some (.cells zeroE.v 39 (0, 0)) from row_on (row_on HZ1.out HB4.out) (ball _ _))
            have HW2 := hid (show Below w.heap.size w (w4.alloc (.cells (frV K [b0, b1, b2, b3, b4, b5, b6]) 30)) from btr (btr HW1.out HB4.out) (ball _ _))
            have HY2 := hid (show (w4.alloc (.cells (frV K [b0, b1, b2, b3, b4, b5, b6]) 30)).heap[A]? = some (.cells Y.v 39 (0, 0)) from row_on (row_on HRA.out HB4.out) (ball _ _))
            have hfb : frV K [b0, b1, b2, b3, b4, b5, b6] = #[.int .u8 K, .int .u64 b0, .int .u64 b1, .int .u64 b2, .int .u64 b3, .int .u64 b4, .int .u64 b5, .int .u64 b6] := rfl
            rw [hfb] at HR2 HZ2 HW2 HY2
            rw [← HLL.out] at HR2
            clear HR1 HZ1 HW1 HRA HB4 PA hfb c0 c1 c2 c3 c4 c5 c6 c7 c8 c9 c10 c11 c12
            obtain ⟨d0, d1, d2, d3, d4, d5, d6, d7⟩ := cells_F HR2.out
            refine hid ?_
            go_wp2_with (first | (refine wpList_st (by rfl) 39 (.tmp 2) (.tmp 54) (by rfl) (w.heap.size + 1) zeroE.v (by rfl) (by rfl) 39 zeroE.v HZ2.out info39 rfl (by simp [zeroE, Evt.v, eV, Value.oneCell']) ?_; intro w5 hst; have HST := hid hst; clear hst; refine Hid.out ?_))
            refine hid ?_
            go_wp2
            exact bodyPost_ret (res39 Try.f13 2 3 Try.results13 _ _ (w.heap.size + 1) zeroE.v _ (by rfl) (by rfl) HST.out.row info39) rfl ⟨HR9.out, HST.out.bel _ _ HW2.out (by omega)⟩
  · have hE : uqE k [a0, a1, a2, a3, a4, a5, a6] = 41 := by unfold uqE; rw [if_neg hin]
    have hI : uqI k [a0, a1, a2, a3, a4, a5, a6] = zeroE := by unfold uqI; rw [if_neg (by omega)]
    rw [hI, hE]
    have FN := hid (fun w => told_no (k - 64) (by omega) w)
    have hsb : wrap64 (k - 64) = k - 64 := by unfold wrap64; omega
    have hsb2 : IntKind.i64.wrap (k - 64) = k - 64 := by rw [IntKind.wrap_i64]; omega
    have HZ := hid (heap2 w (.cells (frV k [a0, a1, a2, a3, a4, a5, a6]) 30) (.cells zeroE.v 39))
    have hfa : frV k [a0, a1, a2, a3, a4, a5, a6] = #[.int .u8 k, .int .u64 a0, .int .u64 a1, .int .u64 a2, .int .u64 a3, .int .u64 a4, .int .u64 a5, .int .u64 a6] := rfl
    rw [hfa]
    clear hfa hin hE hI ha
    go_enter Try.func13, Try.ntmps13
    go_wp2_with (first | (go_at_call 28; refine (FN.out _).mono ?_; rintro e w2 ⟨rfl, hb⟩; have HB2 := hid hb; clear hb; refine Hid.out ?_))
    have HZ2 := hid (row_on HZ.out HB2.out)
    have HW2 := hid (btr (btr (ball _ _) (ball _ _)) HB2.out)
    clear HZ HB2
    refine hid ?_
    go_wp2_with (first | (refine wpList_st (by rfl) 39 (.tmp 2) (.tmp 17) (by rfl) (w.heap.size + 1) zeroE.v (by rfl) (by rfl) 39 zeroE.v HZ2.out info39 rfl (by simp [zeroE, Evt.v, eV, Value.oneCell']) ?_; intro w5 hst; have HST := hid hst; clear hst; refine Hid.out ?_))
    refine hid ?_
    go_wp2
    exact bodyPost_ret (res39 Try.f13 2 3 Try.results13 _ _ (w.heap.size + 1) zeroE.v _ (by rfl) (by rfl) HST.out.row info39) rfl ⟨rfl, HST.out.bel _ _ HW2.out (by omega)⟩
end Go.Proofs.Ytnhipamajelalaa
