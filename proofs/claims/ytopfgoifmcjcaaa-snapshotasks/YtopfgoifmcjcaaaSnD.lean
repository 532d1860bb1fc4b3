/-
  How much is shown ahead of an order, by the document.
-/
import Derived.Test.YtopfgoifmcjcaaaSnC
namespace Go.Proofs.Ytopfgoifmcjcaaa
open Go.RowKit Go.Deep
set_option linter.unusedVariables false
set_option linter.unusedSimpArgs false
set_option maxHeartbeats 8000000
set_option maxRecDepth 100000
theorem rahead_any (cap meet high seq id : Int) (q1 q2 : Option Addr) (c1 c2 : Nat) (os1 os2 : List Or) (w : World) (h1 : Osz w q1 os1) (h2 : Osz w q2 os2) (hn1 : os1.length < 9223372036854775808) (hn2 : os2.length < 9223372036854775808) :
    Calls Try.prog 6 #[.agg #[.int .i64 cap, .int .i64 meet, .slice q1 os1.length c1, .slice q2 os2.length c2, .int .u64 high, .int .u64 seq], .int .u64 id] w fun e w' => e = .returned (.tuple #[.int .u64 (ah id os1 os2).1, .bool (ah id os1 os2).2]) ∧ Below w.heap.size w w' := by
  obtain ⟨n1, e1⟩ : ∃ n, os1.length = n := ⟨_, rfl⟩
  obtain ⟨n2, e2⟩ : ∃ n, os2.length = n := ⟨_, rfl⟩
  obtain ⟨R, hR⟩ : ∃ R, w.heap.size = R := ⟨_, rfl⟩
  obtain ⟨U0, hU0⟩ : ∃ U, w.alloc (.cells #[.int .i64 cap, .int .i64 meet, .slice q1 os1.length c1, .slice q2 os2.length c2, .int .u64 high, .int .u64 seq] 27) = U := ⟨_, rfl⟩
  obtain ⟨W, hW⟩ : ∃ U, U0.alloc (.cells #[.slice q1 os1.length c1, .slice q2 os2.length c2] 40) = U := ⟨_, rfl⟩
  have s0 : U0.heap.size = R + 1 := by rw [← hU0, ← hR]; simp
  have hbW : Below w.heap.size w W := by rw [← hW, ← hU0]; exact btr (ball _ _) (ball _ _)
  have hY : W.heap[R + 1]? = some (.cells #[.slice q1 os1.length c1, .slice q2 os2.length c2] 40 (0, 0)) := by
    rw [← hW, ← s0]; exact World.alloc_heap_new _ _
  have hB : U0.heap[R]? = some (.cells #[.int .i64 cap, .int .i64 meet, .slice q1 os1.length c1, .slice q2 os2.length c2, .int .u64 high, .int .u64 seq] 27 (0, 0)) := by
    rw [← hU0, ← hR]; exact World.alloc_heap_new _ _
  have HU0 := hid hU0
  have HW := hid hW
  have HRR := hid hR
  have HBW := hid hbW
  have HB := hid hB
  have H1 := hid (h1.on hbW)
  have H2 := hid (h2.on hbW)
  have HY := hid hY
  have HS0 := hid s0
  have HN1 := hid e1
  have HN2 := hid e2
  rw [e1] at HU0 HW HY HB hn1 ⊢
  rw [e2] at HU0 HW HY HB hn2 ⊢
  clear e1 e2 hR hU0 hW s0 hbW hY hB h1 h2
  go_enter Try.func6, Try.ntmps6
  go_upto_region 1 with fail
  rw [HU0.out, HRR.out]
  have hB := HB.out
  have b2 := row_cell hB 2
  have b3 := row_cell hB 3
  simp only [List.getElem?_toArray, List.getElem?_cons_succ, List.getElem?_cons_zero] at b2 b3
  clear hB
  go_wp2_with fail
  rw [HW.out, HS0.out]
  clear b2 b3
  go_loopw [7] (fun iv wr => ∃ i : Nat, i ≤ 2 ∧ iv = .int .i64 i ∧ Hid ((1 ≤ i → fni id os1 = -1) ∧ (2 ≤ i → fni id os2 = -1)) ∧ Hid (Below W.heap.size W wr)) (fun iv _ => 2 - (intOf iv).toNat)
  case atStart => exact ⟨0, Nat.zero_le _, rfl, hid ⟨fun h => by omega, fun h => by omega⟩, hid (Below.refl _ _)⟩
  case round =>
    obtain ⟨i, hin, rfl, HF, HBR⟩ := hrel
    obtain rfl | rfl | rfl : i = 0 ∨ i = 1 ∨ i = 2 := by omega
    · go_wp2_with fail
      go_loopw [8] (fun jv wr' => ∃ j : Nat, j ≤ n1 ∧ jv = .int .i64 j ∧ Hid (∀ a (ha : a < os1.length), a < j → (os1[a]).id ≠ id) ∧ Hid (Below W.heap.size W wr')) (fun jv _ => n1 - (intOf jv).toNat)
      case atStart => exact ⟨0, Nat.zero_le _, rfl, hid (fun a ha h => by omega), HBR⟩
      case round =>
        obtain ⟨j, hjn, rfl, HJ, HBJ⟩ := hrel
        have hyr := row_on HY.out HBJ.out
        have y0 := row_cell hyr 0
        have y1 := row_cell hyr 1
        simp only [List.getElem?_toArray, List.getElem?_cons_succ, List.getElem?_cons_zero] at y0 y1
        clear hyr
        by_cases hjl : j < n1
        · have hje : j < os1.length := by rw [HN1.out]; exact hjl
          obtain ⟨g, o, hp, d0, d1, d2, d3, d4, d5, d6⟩ := osz_cells H1.out HBJ.out hje
          subst hp
          obtain ⟨z, hz⟩ : ∃ z, os1[j] = z := ⟨_, rfl⟩
          rw [hz] at d0 d1 d2 d3 d4 d5 d6
          have HZ := hid hz
          have j0' : (0 : Int) ≤ (j : Int) := by omega
          have j1 : (j : Int) < (n1 : Int) := by omega
          clear hz
          by_cases he : z.id = id
          · rw [he] at d0
            have HE := hid he
            clear he
            go_wp2_with fail
            go_loopw [9, 10] (fun nv kv wr2 => ∃ (k : Nat) (s : Int), k ≤ j ∧ kv = .int .i64 k ∧ nv = .int .u64 s ∧ Hid (shn z.pr 0 (os1.take k) = s) ∧ Hid (Below W.heap.size W wr2)) (fun _ kv _ => j - (intOf kv).toNat)
            case atStart => exact ⟨0, 0, Nat.zero_le _, rfl, rfl, hid rfl, HBJ⟩
            case round =>
              obtain ⟨k, s, hkj, rfl, rfl, HS, HBK⟩ := hrel
              clear y0 y1 d0 d1 d2 d3 d4 d5 d6
              have hyr := row_on HY.out HBK.out
              have y0 := row_cell hyr 0
              have y1 := row_cell hyr 1
              simp only [List.getElem?_toArray, List.getElem?_cons_succ, List.getElem?_cons_zero] at y0 y1
              clear hyr
              by_cases hkl : k < j
              · have hke : k < os1.length := by omega
                obtain ⟨g1, o1, hp1, d0, d1, d2, d3, d4, d5, d6⟩ := osz_cells H1.out HBK.out hje
                injection hp1 with hp1
                injection hp1 with hg1 ho1 _
                subst hg1
                subst ho1
                rw [HZ.out] at d3
                obtain ⟨g2, o2, hp2, f0, f1, f2, f3, f4, f5, f6⟩ := osz_cells H1.out HBK.out hke
                injection hp2 with hp2
                injection hp2 with hg2 ho2 _
                subst hg2
                subst ho2
                obtain ⟨y, hy⟩ : ∃ y, os1[k] = y := ⟨_, rfl⟩
                rw [hy] at f3 f4
                have HSN := hid (shn_snoc z.pr (os1.take k) 0 y)
                rw [← hy, ← List.take_succ_eq_append_getElem hke, hy, HS.out] at HSN
                have k0' : (0 : Int) ≤ (k : Int) := by omega
                have k1 : (k : Int) < (j : Int) := by omega
                have k2 : (k : Int) < (n1 : Int) := by omega
                clear d0 d1 d2 d4 d5 d6 f0 f1 f2 f5 f6 hy
                by_cases hyp : y.pr = z.pr
                · rw [if_pos hyp] at HSN
                  rw [hyp] at f3
                  clear hyp
                  go_upto_region 13 with fail
                  go_quiet (fail)
                  go_wp2
                  go_roundw
                  case rel => exact ⟨k + 1, _, by omega, by go_num, rfl, HSN, hid (btr HBK.out (bdrew _ _))⟩
                  case measure => simp [intOf]; omega
                · rw [if_neg hyp] at HSN
                  have hyp' : (y.pr == z.pr) = false := by simpa using hyp
                  clear hyp
                  go_upto_region 13 with fail
                  go_quiet (fail)
                  go_wp2
                  go_roundw
                  case rel => exact ⟨k + 1, _, by omega, by go_num, rfl, HSN, hid (btr HBK.out (bdrew _ _))⟩
                  case measure => simp [intOf]; omega
              · obtain rfl : k = j := by omega
                go_wp2
                go_ret2
                refine ⟨?_, btr HBW.out HBK.out⟩
                have hkk := fni_at hje HJ.out (by rw [HZ.out]; exact HE.out)
                unfold ah
                rw [if_pos (by rw [hkk]; omega), ah1_eq hkk hje, HZ.out, HS.out]
                rfl
          · have he' : (z.id == id) = false := by simpa using he
            have HE := hid he
            clear he
            go_wp2
            go_roundw
            case rel =>
              refine ⟨j + 1, by omega, by go_num, hid (fun a ha hl => ?_), HBJ⟩
              by_cases hja : a = j
              · subst hja; rw [HZ.out]; exact HE.out
              · exact HJ.out a ha (by omega)
            case measure => simp [intOf]; omega
        · obtain rfl : j = n1 := by omega
          have HM1 := hid (fni_none (fun a ha => HJ.out a ha (by rw [← HN1.out]; exact ha)))
          go_wp2
          go_roundw
          case rel => exact ⟨1, by omega, by go_num, hid ⟨fun _ => HM1.out, fun h => by omega⟩, HBJ⟩
          case measure => simp [intOf]
    · go_wp2_with fail
      go_loopw [8] (fun jv wr' => ∃ j : Nat, j ≤ n2 ∧ jv = .int .i64 j ∧ Hid (∀ a (ha : a < os2.length), a < j → (os2[a]).id ≠ id) ∧ Hid (Below W.heap.size W wr')) (fun jv _ => n2 - (intOf jv).toNat)
      case atStart => exact ⟨0, Nat.zero_le _, rfl, hid (fun a ha h => by omega), HBR⟩
      case round =>
        obtain ⟨j, hjn, rfl, HJ, HBJ⟩ := hrel
        have hyr := row_on HY.out HBJ.out
        have y0 := row_cell hyr 0
        have y1 := row_cell hyr 1
        simp only [List.getElem?_toArray, List.getElem?_cons_succ, List.getElem?_cons_zero] at y0 y1
        clear hyr
        by_cases hjl : j < n2
        · have hje : j < os2.length := by rw [HN2.out]; exact hjl
          obtain ⟨g, o, hp, d0, d1, d2, d3, d4, d5, d6⟩ := osz_cells H2.out HBJ.out hje
          subst hp
          obtain ⟨z, hz⟩ : ∃ z, os2[j] = z := ⟨_, rfl⟩
          rw [hz] at d0 d1 d2 d3 d4 d5 d6
          have HZ := hid hz
          have j0' : (0 : Int) ≤ (j : Int) := by omega
          have j1 : (j : Int) < (n2 : Int) := by omega
          clear hz
          by_cases he : z.id = id
          · rw [he] at d0
            have HE := hid he
            clear he
            go_wp2_with fail
            go_loopw [9, 10] (fun nv kv wr2 => ∃ (k : Nat) (s : Int), k ≤ j ∧ kv = .int .i64 k ∧ nv = .int .u64 s ∧ Hid (shn z.pr 0 (os2.take k) = s) ∧ Hid (Below W.heap.size W wr2)) (fun _ kv _ => j - (intOf kv).toNat)
            case atStart => exact ⟨0, 0, Nat.zero_le _, rfl, rfl, hid rfl, HBJ⟩
            case round =>
              obtain ⟨k, s, hkj, rfl, rfl, HS, HBK⟩ := hrel
              clear y0 y1 d0 d1 d2 d3 d4 d5 d6
              have hyr := row_on HY.out HBK.out
              have y0 := row_cell hyr 0
              have y1 := row_cell hyr 1
              simp only [List.getElem?_toArray, List.getElem?_cons_succ, List.getElem?_cons_zero] at y0 y1
              clear hyr
              by_cases hkl : k < j
              · have hke : k < os2.length := by omega
                obtain ⟨g1, o1, hp1, d0, d1, d2, d3, d4, d5, d6⟩ := osz_cells H2.out HBK.out hje
                injection hp1 with hp1
                injection hp1 with hg1 ho1 _
                subst hg1
                subst ho1
                rw [HZ.out] at d3
                obtain ⟨g2, o2, hp2, f0, f1, f2, f3, f4, f5, f6⟩ := osz_cells H2.out HBK.out hke
                injection hp2 with hp2
                injection hp2 with hg2 ho2 _
                subst hg2
                subst ho2
                obtain ⟨y, hy⟩ : ∃ y, os2[k] = y := ⟨_, rfl⟩
                rw [hy] at f3 f4
                have HSN := hid (shn_snoc z.pr (os2.take k) 0 y)
                rw [← hy, ← List.take_succ_eq_append_getElem hke, hy, HS.out] at HSN
                have k0' : (0 : Int) ≤ (k : Int) := by omega
                have k1 : (k : Int) < (j : Int) := by omega
                have k2 : (k : Int) < (n2 : Int) := by omega
                clear d0 d1 d2 d4 d5 d6 f0 f1 f2 f5 f6 hy
                by_cases hyp : y.pr = z.pr
                · rw [if_pos hyp] at HSN
                  rw [hyp] at f3
                  clear hyp
                  go_upto_region 13 with fail
                  go_quiet (fail)
                  go_wp2
                  go_roundw
                  case rel => exact ⟨k + 1, _, by omega, by go_num, rfl, HSN, hid (btr HBK.out (bdrew _ _))⟩
                  case measure => simp [intOf]; omega
                · rw [if_neg hyp] at HSN
                  have hyp' : (y.pr == z.pr) = false := by simpa using hyp
                  clear hyp
                  go_upto_region 13 with fail
                  go_quiet (fail)
                  go_wp2
                  go_roundw
                  case rel => exact ⟨k + 1, _, by omega, by go_num, rfl, HSN, hid (btr HBK.out (bdrew _ _))⟩
                  case measure => simp [intOf]; omega
              · obtain rfl : k = j := by omega
                go_wp2
                go_ret2
                refine ⟨?_, btr HBW.out HBK.out⟩
                have hkk := fni_at hje HJ.out (by rw [HZ.out]; exact HE.out)
                unfold ah
                rw [if_neg (by rw [HF.out.1 (by omega)]; omega), if_pos (by rw [hkk]; omega), ah1_eq hkk hje, HZ.out, HS.out]
                rfl
          · have he' : (z.id == id) = false := by simpa using he
            have HE := hid he
            clear he
            go_wp2
            go_roundw
            case rel =>
              refine ⟨j + 1, by omega, by go_num, hid (fun a ha hl => ?_), HBJ⟩
              by_cases hja : a = j
              · subst hja; rw [HZ.out]; exact HE.out
              · exact HJ.out a ha (by omega)
            case measure => simp [intOf]; omega
        · obtain rfl : j = n2 := by omega
          have HM1 := hid (fni_none (fun a ha => HJ.out a ha (by rw [← HN2.out]; exact ha)))
          go_wp2
          go_roundw
          case rel => exact ⟨2, by omega, by go_num, hid ⟨fun _ => HF.out.1 (by omega), fun _ => HM1.out⟩, HBJ⟩
          case measure => simp [intOf]
    · go_wp2
      go_ret2
      refine ⟨?_, btr HBW.out HBR.out⟩
      obtain ⟨f1, f2⟩ := HF.out
      unfold ah
      rw [f1 (by omega), f2 (by omega)]
      rfl
end Go.Proofs.Ytopfgoifmcjcaaa
