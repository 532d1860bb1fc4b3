/-
  The document's Missing.
-/
import Derived.Test.YtiphgfghdbmlcaaFhH
import Derived.Test.YtiphgfghdbmlcaaFhJ
namespace Go.Proofs.Ytiphgfghdbmlcaa
open Go.RowKit Go.Deep Go.Maps
set_option linter.unusedVariables false
set_option linter.unusedSimpArgs false
set_option maxHeartbeats 8000000
set_option maxRecDepth 100000
/-- the least so far, in the order in which it came. -/
theorem mnS_take {g : Int} {L : List Dm} {i : Nat} (hi : i < L.length) : mnS g (L.take (i + 1)) = min (mnS g (L.take i)) (L[i].sq - 1) := by
  rw [List.take_add_one, List.getElem?_eq_getElem hi]
  unfold mnS
  rw [List.foldl_append]
  rfl
theorem rmissing_any (hold : Nat) (hh : hold ≤ 1024) (s : Ss) (hg : Sg hold s) (p1 p2 p3 : Option Addr) (c1 c2 c3 : Nat) (w : World) (h : Dw 0 w p3 c3 s.L) :
    Calls Try.prog 41 #[.agg #[.int .i64 hold, .int .u64 s.sq, .slice p1 s.l1.length c1, .slice p2 s.l2.length c2, .slice p3 s.L.length c3, .int .u64 s.gr, .int .u64 s.la.sq, .int .i64 s.la.kd, .int .i64 s.la.sd, .int .i64 s.la.pr, .int .u64 s.la.qt, .int .i64 s.la.ct]] w fun e w' => e = .returned (.tuple #[.int .u64 (miA s), .int .u64 (miB s), .bool (!decide (s.gr ≤ s.sq))]) ∧ Below w.heap.size w w' := by
  obtain ⟨sq, gr, l1, l2, L, la⟩ := s
  dsimp only at h ⊢
  obtain ⟨n1, hn1⟩ : ∃ n, l1.length = n := ⟨_, rfl⟩
  obtain ⟨n2, hn2⟩ : ∃ n, l2.length = n := ⟨_, rfl⟩
  obtain ⟨n, hn⟩ : ∃ n, L.length = n := ⟨_, rfl⟩
  rw [hn1, hn2, hn]
  obtain ⟨R, hR⟩ : ∃ R, w.heap.size = R := ⟨_, rfl⟩
  obtain ⟨W, hW⟩ : ∃ W, w.alloc (.cells #[.int .i64 hold, .int .u64 sq, .slice p1 n1 c1, .slice p2 n2 c2, .slice p3 n c3, .int .u64 gr, .int .u64 la.sq, .int .i64 la.kd, .int .i64 la.sd, .int .i64 la.pr, .int .u64 la.qt, .int .i64 la.ct] 57) = W := ⟨_, rfl⟩
  have hb0 : Below w.heap.size w W := by rw [← hW]; exact ball _ _
  have HRO := hid (show W.heap[R]? = some (.cells #[.int .i64 hold, .int .u64 sq, .slice p1 n1 c1, .slice p2 n2 c2, .slice p3 n c3, .int .u64 gr, .int .u64 la.sq, .int .i64 la.kd, .int .i64 la.sd, .int .i64 la.pr, .int .u64 la.qt, .int .i64 la.ct] 57 (0, 0)) from by rw [← hW, ← hR]; exact World.alloc_heap_new _ _)
  have C := hid (rgood_any hold sq gr n1 n2 n c1 c2 c3 p1 p2 p3 la W)
  have HL := hid (h.on hb0)
  have HB := hid hb0
  have HW := hid hW
  have HR := hid hR
  have HN := hid hn
  have HG := hid hg
  have hn1024 : n ≤ 1024 := by have := hg.len; dsimp only at this; omega
  have hcap := (own_cap h).1
  have hmax := (own_cap h).2.1
  unfold maxLen at hmax
  rw [hn] at hcap
  have k0 := row_cell HRO.out 0
  have k1 := row_cell HRO.out 1
  have k2 := row_cell HRO.out 2
  have k3 := row_cell HRO.out 3
  have k4 := row_cell HRO.out 4
  have k5 := row_cell HRO.out 5
  have k6 := row_cell HRO.out 6
  have k7 := row_cell HRO.out 7
  have k8 := row_cell HRO.out 8
  have k9 := row_cell HRO.out 9
  have k10 := row_cell HRO.out 10
  have k11 := row_cell HRO.out 11
  clear h hg hb0 hW hR hn hn1 hn2
  by_cases hgd : gr ≤ sq
  · have e1 : miA ⟨sq, gr, l1, l2, L, la⟩ = 0 := by unfold miA; rw [if_pos hgd]
    have e2 : miB ⟨sq, gr, l1, l2, L, la⟩ = 0 := by unfold miB; rw [if_pos hgd]
    have e3 : decide (gr ≤ sq) = true := by simpa using hgd
    rw [e1, e2, e3]
    rw [e3] at C
    clear e1 e2 e3 hgd
    go_enter Try.func41, Try.ntmps41
    go_upto_region 1 with fail
    rw [HW.out, HR.out]
    go_wp2_with (go_at_call 45; with_reducible refine (C.out).mono ?_; rintro e w1 ⟨rfl, hb⟩; have HB1 := hid hb; clear hb)
    go_ret3
    exact ⟨rfl, btr HB.out HB1.out⟩
  · have e1 : miA ⟨sq, gr, l1, l2, L, la⟩ = uw (sq + 1) := by unfold miA; rw [if_neg hgd]
    have e2 : miB ⟨sq, gr, l1, l2, L, la⟩ = mnS gr L := by unfold miB; rw [if_neg hgd]
    have e3 : decide (gr ≤ sq) = false := by simpa using hgd
    rw [e1, e2, e3]
    rw [e3] at C
    clear e1 e2 e3 hgd
    obtain ⟨y, hy⟩ : ∃ y, IntKind.u64.wrap (sq + 1) = y := ⟨_, rfl⟩
    rw [show uw (sq + 1) = y from hy]
    go_enter Try.func41, Try.ntmps41
    go_upto_region 1 with fail
    rw [HW.out, HR.out]
    go_upto_region 3 with (go_at_call 45; with_reducible refine (C.out).mono ?_; rintro e V ⟨rfl, hb⟩; have BV := hid hb; clear hb)
    clear k0 k1 k2 k3 k4 k5 k6 k7 k8 k9 k10 k11 C
    have k1 := row_cell (row_on HRO.out BV.out) 1
    have k4 := row_cell (row_on HRO.out BV.out) 4
    have k5 := row_cell (row_on HRO.out BV.out) 5
    have HLV := hid (HL.out.on BV.out)
    go_wp2
    go_loop [5, 6] (fun tv iv => ∃ (i : Nat) (t : Int), i ≤ n ∧ tv = .int .u64 t ∧ iv = .int .i64 i ∧ Hid (t = mnS gr (L.take i))) (fun _ iv => n - (intOf iv).toNat)
    case atStart => exact ⟨0, gr, by omega, rfl, rfl, by simp [Hid, mnS]⟩
    case round =>
      obtain ⟨i, t, hi, rfl, rfl, HT⟩ := hrel
      by_cases hlt : i < n
      · have hil : i < L.length := by have := HN.out; omega
        obtain ⟨g, rfl, sg, a0, a1, a2, a3, a4, a5⟩ := HLV.out.cells (i := i) hil
        obtain ⟨z, hz⟩ : ∃ z, L[i] = z := ⟨_, rfl⟩
        rw [hz] at a0 a1 a2 a3 a4 a5
        have hd := HG.out.hl z (by rw [← hz]; exact List.getElem_mem hil)
        have hd1 := (dOk_iff z).1 hd.1
        dsimp only at hd
        have i0 : (0 : Int) ≤ (i : Int) := by omega
        have i1 : (i : Int) < (n : Int) := by omega
        have w1 : IntKind.u64.wrap (z.sq - 1) = z.sq - 1 := by rw [IntKind.wrap_u64]; omega
        have HS := hid (show mnS gr (L.take (i + 1)) = min t (z.sq - 1) from by rw [mnS_take hil, ← HT.out, hz])
        have HZG := hid (show z.sq ≤ gr from hd.2.2.2)
        clear hd hd1 hz a1 a2 a3 a4 a5
        by_cases hi0 : i = 0
        · subst hi0
          have ht : t = gr := by have := HT.out; rw [this]; rfl
          have q0 : (((0 : Nat) : Int) == 0) = true := rfl
          have HTG := hid ht
          clear ht
          simp only [Nat.zero_mul] at a0
          go_wp2
          go_round
          case rel => exact ⟨1, z.sq - 1, by omega, rfl, rfl, show z.sq - 1 = _ from by rw [HS.out, HTG.out]; have := HZG.out; omega⟩
          case measure => simp [intOf]; omega
        · have q0 : ((i : Int) == 0) = false := by simp; omega
          by_cases hlt2 : z.sq - 1 < t
          · have q1 : decide (z.sq - 1 < t) = true := by simpa using hlt2
            have HL2 := hid hlt2
            clear hlt2
            go_wp2
            go_round
            case rel => exact ⟨i + 1, z.sq - 1, by omega, rfl, by go_num, show z.sq - 1 = _ from by rw [HS.out]; have := HL2.out; omega⟩
            case measure => simp [intOf]; omega
          · have q1 : decide (z.sq - 1 < t) = false := by simpa using hlt2
            have HL2 := hid hlt2
            clear hlt2
            go_wp2
            go_round
            case rel => exact ⟨i + 1, t, by omega, rfl, by go_num, show t = _ from by rw [HS.out]; have := HL2.out; omega⟩
            case measure => simp [intOf]; omega
      · have E := hid (show t = mnS gr L from by rw [HT.out, List.take_of_length_le (by have := HN.out; omega)])
        go_wp2
        go_ret3
        exact ⟨by rw [E.out]; rfl, btr HB.out BV.out⟩
end Go.Proofs.Ytiphgfghdbmlcaa
