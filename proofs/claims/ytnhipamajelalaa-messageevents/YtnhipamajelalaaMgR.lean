/-
  readFrame.
-/
import Derived.Test.YtnhipamajelalaaMgD
namespace Go.Proofs.Ytnhipamajelalaa
open Go.RowKit Go.Maps Go.Deep Go.Lib
set_option linter.unusedVariables false
set_option linter.unusedSimpArgs false

theorem four (w : World) (o1 o2 o3 o4 : Obj) {w2 : World} (hb : Below ((((w.alloc o1).alloc o2).alloc o3).alloc o4).heap.size ((((w.alloc o1).alloc o2).alloc o3).alloc o4) w2) :
    w2.heap[w.heap.size]? = some o1 ∧ w2.heap[w.heap.size + 1]? = some o2 ∧ w2.heap[w.heap.size + 1 + 1]? = some o3 ∧ w2.heap[w.heap.size + 1 + 1 + 1]? = some o4 ∧ Below w.heap.size w w2 := by
  obtain ⟨a, b, c, d⟩ := three w o1 o2 o3 (ball _ o4)
  have h4 : ((((w.alloc o1).alloc o2).alloc o3).alloc o4).heap[w.heap.size + 1 + 1 + 1]? = some o4 := by
    have := heap_alloc_new (((w.alloc o1).alloc o2).alloc o3) o4
    rw [alloc_size, alloc_size, alloc_size] at this
    exact this
  exact ⟨row_on a hb, row_on b hb, row_on c hb, row_on h4 hb, btr d hb⟩
def anW (a b : Int) : Int := bits .and .u64 a b
/-- what stands at a tag's place. -/
def rdG (k : Int) (l : List Int) (t : Int) : Int := anW (l.getD (plW k t).toNat 0 / 2 ^ (plB t).toNat) (bnd t)
theorem anW_wd (a b : Int) : Wd (anW a b) := by
  unfold anW bits
  simp only
  show Wd (_ % 18446744073709551616)
  unfold Wd
  omega
theorem rdG_wd (k : Int) (l : List Int) (t : Int) : Wd (rdG k l t) := anW_wd _ _
structure RdR (w : World) (k : Int) (l : List Int) (q : Option Addr) (L : List Int) (j : Nat) (wr : World) : Prop where
  r0 : wr.heap[w.heap.size]? = some (.cells (frV k l) 30 (0, 0))
  r1 : wr.heap[w.heap.size + 1]? = some (.cells #[.int .u8 0, .map none] 46 (0, 0))
  m : Fm wr (w.heap.size + 1 + 1) j (only (L.take j) (rdG k l))
  r3 : wr.heap[w.heap.size + 1 + 1 + 1]? = some (.cells #[.int .u8 k, .map (some (w.heap.size + 1 + 1))] 46 (0, 0))
  s : Sn wr q L
  bel : Below w.heap.size w wr
theorem RdR.step {w wr w3 : World} {k : Int} {l : List Int} {q : Option Addr} {L : List Int} {j : Nat} (h : RdR w k l q L j wr) (hg : wr.drew.grownBy w3 (some (w.heap.size + 1 + 1))) (hF : Fm w3 (w.heap.size + 1 + 1) (j + 1) (only (L.take (j + 1)) (rdG k l))) : RdR w k l q L (j + 1) w3 :=
  ⟨row_grown (w := wr.drew) h.r0 hg (by omega), row_grown (w := wr.drew) h.r1 hg (by omega), hF, row_grown (w := wr.drew) h.r3 hg (by omega), Sn.grown (w := wr.drew) h.s h.m hg, h.bel.drew.grown hg h.bel.size (fun i hi => by cases hi; omega)⟩
set_option maxHeartbeats 2000000 in
set_option maxRecDepth 100000 in
theorem readFrame_any (k a0 a1 a2 a3 a4 a5 a6 : Int) (ha : ∀ x ∈ [a0, a1, a2, a3, a4, a5, a6], Wd x) (w : World) :
    Calls Try.prog 21 #[.agg (frV k [a0, a1, a2, a3, a4, a5, a6])] w fun e w' => ∃ b n, e = .returned (.agg #[.int .u8 k, .map (some b)]) ∧ n ≤ 8 ∧ w.heap.size ≤ b ∧ Fm w' b n (only (tagsL k) (rdG k [a0, a1, a2, a3, a4, a5, a6])) ∧ Below w.heap.size w w' := by
  have hmm := @run_makeMap Try.prog
  have TA := hid (fun w => tags_any k w)
  have hlen := tags_len k
  have HIN := hid (tags_in k)
  have HPL := hid (place_in k)
  have PL := hid (fun t w => place_any k t w)
  have HA := hid ha
  clear ha
  have hfv : frV k [a0, a1, a2, a3, a4, a5, a6] = #[.int .u8 k, .int .u64 a0, .int .u64 a1, .int .u64 a2, .int .u64 a3, .int .u64 a4, .int .u64 a5, .int .u64 a6] := rfl
  rw [hfv]
  clear hfv
  go_enter Try.func21, Try.ntmps21
  go_wp2_with (first | (go_at_call 33; refine (TA.out _).mono ?_; rintro e w2 ⟨q, cap, rfl, hS, hb⟩; have HS := hid hS; have HB2 := hid hb; clear hS hb; refine Hid.out ?_))
  refine hid ?_
  obtain ⟨r0, r1, r2, r3, hB⟩ := four _ _ _ _ _ HB2.out
  obtain ⟨l, hl⟩ : ∃ l, [a0, a1, a2, a3, a4, a5, a6] = l := ⟨_, rfl⟩
  have hll : l.length = 7 := by rw [← hl]; rfl
  have M0 : Fm w2 (w.heap.size + 1 + 1) 0 (only ((tagsL k).take 0) (rdG k l)) := by
    rw [List.take_zero, only_nil]
    exact ⟨.map [], ⟨#[], 0, r2, ⟨by simp, MapKept.stamped_empty 0, by simp⟩, Nat.le_refl _, rfl⟩, fun t => rfl⟩
  have PK := hid (show RdR w k l q (tagsL k) 0 w2 from ⟨by rw [← hl]; exact r0, r1, M0, r3, HS.out, hB⟩)
  rw [hl] at HA
  have HLL := hid hl
  clear r0 r1 r2 r3 M0 HS HB2 TA hB hl
  obtain ⟨L, hL⟩ : ∃ l, tagsL k = l := ⟨_, rfl⟩
  rw [hL] at PK HIN HPL hlen
  have HTL := hid hL
  rw [hL]
  clear hL
  go_wp2
  go_loopw [16] (fun iv wr => ∃ j : Nat, j ≤ L.length ∧ iv = .int .i64 j ∧ RdR w k l q L j wr) (fun iv _ => L.length - (intOf iv).toNat)
  case atStart => exact ⟨0, Nat.zero_le _, rfl, PK.out⟩
  case round =>
    obtain ⟨j, hj, rfl, hpk⟩ := hrel
    have PJ := hid hpk
    clear hpk PK
    by_cases hjl : j < L.length
    · have hjl' : (j : Int) < (L.length : Int) := by omega
      have hj0 : (0 : Int) ≤ (j : Int) := by omega
      obtain ⟨qb, qo, rfl, hcell⟩ := PJ.out.s j hjl
      have HON := hid (only_step L (rdG k l) j hjl)
      have hti := HIN.out L[j] (List.getElem_mem hjl)
      obtain ⟨p1, p2, p3, p4⟩ := HPL.out L[j] (List.getElem_mem hjl)
      obtain ⟨t, ht⟩ : ∃ t, L[j] = t := ⟨_, rfl⟩
      rw [ht] at hcell HON hti p1 p2 p3 p4
      clear ht
      have hwt := wf_tag hti
      have P := hid (fun w => PL.out t w)
      obtain ⟨W, hW⟩ : ∃ x : Nat, plW k t = (x : Int) := ⟨(plW k t).toNat, by omega⟩
      obtain ⟨S, hS⟩ : ∃ x : Nat, plB t = (x : Int) := ⟨(plB t).toNat, by omega⟩
      have HG := hid (show rdG k l t = anW (l.getD W 0 / 2 ^ S) (bnd t) by unfold rdG; rw [hW, hS]; rfl)
      rw [hW, hS] at P
      rw [hW] at p2
      rw [hS] at p4
      have hk0 : wr.cell? ⟨w.heap.size, 0, none⟩ = some (.int .u8 k) := row_cell PJ.out.r0 0
      have hk1 : wr.cell? ⟨w.heap.size + 1 + 1 + 1, 1, none⟩ = some (.map (some (w.heap.size + 1 + 1))) := row_cell PJ.out.r3 1
      have hx : W < l.length := by omega
      have hword : wr.cell? ⟨w.heap.size, 1 + W, none⟩ = some (.int .u64 (l.getD W 0)) := by
        rw [row_cell PJ.out.r0 (1 + W)]
        simp [frV, uv, Nat.add_comm 1 W, hx]
      have hxw : Wd (l.getD W 0) := by
        have h1 : l.getD W 0 = l[W] := by simp [hx]
        rw [h1]
        exact HA.out _ (List.getElem_mem hx)
      obtain ⟨x, hx2⟩ : ∃ x, l.getD W 0 = x := ⟨_, rfl⟩
      rw [hx2] at hword HG hxw
      obtain ⟨x0, x1⟩ := hxw
      have hcw : Wd (rdG k l t) := rdG_wd k l t
      obtain ⟨w3, hput, hF3, hg3⟩ := (show Fm wr.drew (w.heap.size + 1 + 1) j (only (L.take j) (rdG k l)) from PJ.out.m).put (by omega) t (rdG k l t) hwt hcw
      rw [HG.out] at hput
      have PN := hid (show RdR w k l (some ⟨qb, qo, none⟩) L (j + 1) w3 from PJ.out.step hg3 (HON.out ▸ hF3))
      unfold anW at hput
      have i0 : (0 : Int) ≤ (W : Int) := by omega
      have i1 : (W : Int) < 7 := by omega
      have s0 : (0 : Int) ≤ (S : Int) := by omega
      have s1 : (S : Int) < 64 := by omega
      have BD := hid (fun w => bound_any t w)
      clear p1 p2 p3 p4 hW hS hti hx hF3 hg3 hcw
      go_wp2_with (first | (go_at_call 34; refine (P.out _).mono ?_; rintro e wq ⟨rfl, rfl⟩; refine Hid.out ?_))
      refine hid ?_
      go_wp2
      go_region_with (first | (go_at_call 36; refine (BD.out _).mono ?_; rintro e w' ⟨rfl, rfl⟩))
      all_goals
        go_wp2
        go_roundw
        case rel => exact ⟨j + 1, by omega, by go_num, PN.out⟩
        case measure => simp [intOf]; omega
    · have hje : j = L.length := by omega
      subst hje
      have hp := PJ.out
      have hm := hp.m
      rw [List.take_length (l := L)] at hm
      have HM := hid hm
      have HZ := hp.r1
      have HZ2 := hp.r3
      have HBE := hid hp.bel
      clear hm hp PJ
      go_wp2_with (first
        | (refine wpList_load_row (by rfl) 46 (.tmp 3) (by rfl) (w.heap.size + 1 + 1 + 1) (by rfl) 46 #[.int .u8 k, .map (some (w.heap.size + 1 + 1))] (0, 0) _ HZ2 Try.underlying46 rfl info46 ?_)
        | (refine wpList_st (by rfl) 46 (.tmp 2) (.tmp 40) (by rfl) (w.heap.size + 1) #[.int .u8 k, .map (some (w.heap.size + 1 + 1))] (by rfl) (by rfl) 46 #[.int .u8 0, .map none] HZ info46 rfl (by simp [Value.oneCell']) ?_; intro w3 hst; have HST := hid hst; clear hst; refine Hid.out ?_))
      refine hid ?_
      go_wp2
      refine bodyPost_ret (results_cell_row (fn := Try.f21) Try.results21 _ _ (w.heap.size + 1) 46 #[.int .u8 k, .map (some (w.heap.size + 1 + 1))] (0, 0) _ (by rfl) HST.out.row Try.underlying46 rfl info46) rfl ⟨_, _, rfl, hlen, by omega, ?_, HST.out.bel _ _ HBE.out (by omega)⟩
      rw [HTL.out, HLL.out]
      exact HST.out.fm (by omega) HM.out
end Go.Proofs.Ytnhipamajelalaa
