/-
  WireReaders: the walk.
-/
import Derived.Test.YtffgcdhhjboppaaDoorStF
import Derived.Test.YtffgcdhhjboppaaDoorPacA
namespace Go.Proofs.YtffgcdhhjboppaaDoor
open Go.RowKit Go.Deep Crc
set_option linter.unusedVariables false
set_option linter.unusedSimpArgs false

/-- steps that came in. -/
def Ops (w : World) (p : Option Addr) (OS : List (Int × Bool × List Nat)) : Prop :=
  ∀ i (h : i < OS.length), ∃ b o q c, p = some ⟨b, o, none⟩ ∧ w.cell? ⟨b, o + i * 3, none⟩ = some (.int .i64 OS[i].1) ∧ w.cell? ⟨b, o + i * 3 + 1, none⟩ = some (.bool OS[i].2.1) ∧
    w.cell? ⟨b, o + i * 3 + 2, none⟩ = some (.slice q OS[i].2.2.length c) ∧ Sx w (.slice q OS[i].2.2.length c) OS[i].2.2
def totO (OS : List (Int × Bool × List Nat)) : Nat := (OS.map fun x => x.2.2.length).sum
theorem totO_succ (OS : List (Int × Bool × List Nat)) (i : Nat) (h : i < OS.length) : totO (OS.take (i + 1)) = totO (OS.take i) + OS[i].2.2.length := by
  unfold totO
  rw [List.take_add_one, List.getElem?_eq_getElem h, List.map_append, List.sum_append]
  simp
theorem totO_le (OS : List (Int × Bool × List Nat)) (i : Nat) : totO (OS.take i) ≤ totO OS := by
  unfold totO
  conv => rhs; rw [← List.take_append_drop i OS]
  rw [List.map_append, List.sum_append]
  omega
set_option maxHeartbeats 400000 in
theorem rnewG (w : World) :
    Calls Tryd.prog 19 #[] w fun e w' => e = .returned (.pointer (some ⟨w.heap.size, 0, none⟩)) ∧ w'.heap[w.heap.size]? = some (.cells #[.slice none 0 0] 68 (0, 0)) ∧ Below w.heap.size w w' ∧ w'.heap.size = w.heap.size + 1 := by
  go_enter Tryd.func19, Tryd.ntmps19
  go_wp2
  go_ret
  exact ⟨rfl, heap_alloc_new _ _, bal (Below.refl _ _) _, by simp⟩
theorem tr_new {base T R : Nat} {w : World} (hT : base ≤ T) (hR : base ≤ R) (h1 : w.heap[T]? = some (.cells #[.pointer (some ⟨R, 0, none⟩), .slice none 0 0] 51 (0, 0))) (h2 : w.heap[R]? = some (.cells #[.slice none 0 0] 68 (0, 0))) : Tr base w T R [] (.slice none 0 0) (.slice none 0 0) :=
  ⟨hT, h1, ⟨hR, fun x hx => by simp at hx, h2, Or.inl ⟨rfl, rfl⟩⟩, Or.inl ⟨rfl, rfl⟩, (fun g hg => by cases hg), (fun p n c e => by cases e; exact Nat.le_refl _)⟩

set_option maxHeartbeats 4000000 in
set_option maxRecDepth 100000 in
theorem readers_walk (p : Option Addr) (cap : Nat) (OS : List (Int × Bool × List Nat)) (w : World) (hP : Ops w p OS) (hO : ∀ x ∈ OS, Oct x.2.2) (hT : totO OS ≤ 1048576) (hN : OS.length < 9223372036854775807) (hL : Laid w) :
    Calls Tryd.prog 7 #[.slice p OS.length cap] w fun e w' => e = .returned (.bool true) ∧ Below w.heap.size w w' := by
  have HL := hid hL
  have HP := hid hP
  have HOC := hid hO
  clear hL hP hO
  go_enter Tryd.func7, Tryd.ntmps7
  go_wp2_with fail
  refine (rnewG w).mono ?_
  rintro e wa ⟨rfl, hRa, hba, hsa⟩
  have HRa := hid hRa
  have HBa := hid hba
  clear hRa hba
  have HBA := hid (bal HBa.out (.cells #[.pointer (some ⟨w.heap.size, 0, none⟩), .slice none 0 0] 51))
  have HTa := hid (show (wa.alloc (.cells #[.pointer (some ⟨w.heap.size, 0, none⟩), .slice none 0 0] 51)).heap[w.heap.size + 1]? = some (.cells #[.pointer (some ⟨w.heap.size, 0, none⟩), .slice none 0 0] 51 (0, 0)) by rw [← hsa]; exact heap_alloc_new _ _)
  have HRa1 := hid (show (wa.alloc (.cells #[.pointer (some ⟨w.heap.size, 0, none⟩), .slice none 0 0] 51)).heap[w.heap.size]? = some (.cells #[.slice none 0 0] 68 (0, 0)) by rw [heap_alloc_old _ _ (by omega)]; exact HRa.out)
  go_wp2_with fail
  obtain ⟨WA, hWA⟩ : ∃ W, wa.alloc (.cells #[.pointer (some ⟨w.heap.size, 0, none⟩), .slice none 0 0] 51) = W := ⟨_, rfl⟩
  have hsA : WA.heap.size = w.heap.size + 2 := by rw [← hWA]; simp [hsa]
  rw [hWA] at HBA HTa HRa1 ⊢
  clear hWA hsa HRa HBa
  refine (rnewG WA).mono ?_
  rintro e wb ⟨rfl, hRb, hbb, hsb⟩
  have HRb := hid hRb
  have HBb := hid (btr HBA.out hbb)
  have HTb0 := hid (show wb.heap[w.heap.size + 1]? = some (.cells #[.pointer (some ⟨w.heap.size, 0, none⟩), .slice none 0 0] 51 (0, 0)) by rw [blk_to hbb (by omega)]; exact HTa.out)
  have HRb0 := hid (show wb.heap[w.heap.size]? = some (.cells #[.slice none 0 0] 68 (0, 0)) by rw [blk_to hbb (by omega)]; exact HRa1.out)
  rw [hsA] at HRb hsb ⊢
  clear hRb hbb HTa HRa1 HBA
  have HBB := hid (bal HBb.out (.cells #[.pointer (some ⟨w.heap.size + 2, 0, none⟩), .slice none 0 0] 51))
  have HTa := hid (show Tr w.heap.size (wb.alloc (.cells #[.pointer (some ⟨w.heap.size + 2, 0, none⟩), .slice none 0 0] 51)) (w.heap.size + 1) w.heap.size [] (.slice none 0 0) (.slice none 0 0) from tr_new (by omega) (by omega) (by rw [heap_alloc_old _ _ (by omega)]; exact HTb0.out) (by rw [heap_alloc_old _ _ (by omega)]; exact HRb0.out))
  have HTb := hid (show Tr w.heap.size (wb.alloc (.cells #[.pointer (some ⟨w.heap.size + 2, 0, none⟩), .slice none 0 0] 51)) (w.heap.size + 3) (w.heap.size + 2) [] (.slice none 0 0) (.slice none 0 0) from tr_new (by omega) (by omega) (by rw [show w.heap.size + 3 = wb.heap.size by omega]; exact heap_alloc_new _ _) (by rw [heap_alloc_old _ _ (by omega)]; exact HRb.out))
  obtain ⟨WB, hWB⟩ : ∃ W, wb.alloc (.cells #[.pointer (some ⟨w.heap.size + 2, 0, none⟩), .slice none 0 0] 51) = W := ⟨_, rfl⟩
  rw [hWB] at HBB HTa HTb
  have ca0 : WB.cell? ⟨w.heap.size + 1, 0, none⟩ = some (.pointer (some ⟨w.heap.size, 0, none⟩)) := by rw [cell_of_row WB _ _ _ _ _ HTa.out.2.1]; rfl
  have cb0 : WB.cell? ⟨w.heap.size + 3, 0, none⟩ = some (.pointer (some ⟨w.heap.size + 2, 0, none⟩)) := by rw [cell_of_row WB _ _ _ _ _ HTb.out.2.1]; rfl
  clear HTb0 HRb0 HRb HBb
  have cn : crc [] = 0 := by decide
  have heq : ∀ w : World, (Op.equalIn 10000 32 (.agg (bv (frame 0 [0, 0, 0, 0, 0, 0, 0])).toArray) (.agg (bv (frame 0 [0, 0, 0, 0, 0, 0, 0])).toArray)).run Tryd.prog w = .ok true w := fun w => by
    have h := eq_bytes 32 64 Tryd.underlying32 (frame 0 [0, 0, 0, 0, 0, 0, 0]) (frame 0 [0, 0, 0, 0, 0, 0, 0]) (frame_len _ _ rfl) (frame_len _ _ rfl) w
    rw [decide_eq_true rfl] at h
    exact h
  obtain ⟨FR, hFR⟩ : ∃ F, (bv (frame 0 [0, 0, 0, 0, 0, 0, 0])).toArray = F := ⟨_, rfl⟩
  rw [hFR] at heq
  have CP := hid (show ∀ w : World, Laid w → Calls Tryd.prog 13 #[.agg #[.int .u8 0, .int .u64 0, .int .u64 0, .int .u64 0, .int .u64 0, .int .u64 0, .int .u64 0, .int .u64 0]] w fun e w' => e = .returned (.agg FR) ∧ Below w.heap.size w w' from fun w hL => by
    rw [← hFR]
    exact pack_any 0 0 0 0 0 0 0 0 w hL (by decide) (by decide) (by decide) (by decide) (by decide) (by decide) (by decide) (by decide))
  have CR := hid (show ∀ w : World, Calls Tryd.prog 14 #[.agg #[.int .u8 0, .int .u64 0, .int .u64 0, .int .u64 0, .int .u64 0, .int .u64 0, .int .u64 0, .int .u64 0]] w fun e w' => e = .returned (.agg FR) ∧ Below w.heap.size w w' from fun w => by
    rw [← hFR]
    exact rpack_any 0 0 0 0 0 0 0 0 w (by decide) (by decide))
  clear hFR
  go_wp2_with fail
  (try rw [hWB])
  refine (wsum_none none 0 WB).mono ?_
  rintro e wx ⟨rfl, rfl⟩
  rw [cn]
  go_wp2_with fail
  refine (CP.out _ (laid_to HL.out HBB.out)).mono ?_
  rintro e wc ⟨rfl, hbc⟩
  have HBC := hid hbc
  clear hbc
  go_wp2_with fail
  refine (CR.out _).mono ?_
  rintro e wd ⟨rfl, hbd⟩
  have HBD := hid (btr HBC.out hbd)
  clear hbd HBC
  go_wp2_with fail
  have HTA := hid (HTa.out.to HBD.out)
  have HTB := hid (HTb.out.to HBD.out)
  have HBW := hid (btr HBB.out HBD.out)
  clear HTa HTb HBB HBD ca0 cb0 CP CR heq cn hWB
  go_loopw [5] (fun iv wr => ∃ (i : Nat) (ya yb : List Nat) (hva cva hvb cvb : Value), i ≤ OS.length ∧ iv = .int .i64 i ∧ ya.length ≤ totO (OS.take i) ∧ yb.length ≤ totO (OS.take i) ∧ Hid (Tr w.heap.size wr (w.heap.size + 1) w.heap.size ya hva cva) ∧ Hid (Tr w.heap.size wr (w.heap.size + 3) (w.heap.size + 2) yb hvb cvb) ∧ Hid (Apart (w.heap.size + 1) w.heap.size hva cva (w.heap.size + 3) (w.heap.size + 2) hvb cvb) ∧ Hid (Below w.heap.size w wr)) (fun iv _ => OS.length - (intOf iv).toNat)
  case atStart => exact ⟨0, [], [], _, _, _, _, by omega, rfl, by simp, by simp, HTA, HTB, hid ⟨by omega, by omega, (fun g hg => by cases hg), (fun g hg => by cases hg), (fun g hg => by cases hg), (fun g hg => by cases hg)⟩, HBW⟩
  case round =>
    obtain ⟨i, ya, yb, hva, cva, hvb, cvb, hi, rfl, hya, hyb, HA, HBt, HAP, HB⟩ := hrel
    have ht := totO_le OS i
    by_cases hlt : i < OS.length
    · obtain ⟨b, o, q, c, rfl, hc0, hc1, hc2, hsx⟩ := HP.out i hlt
      have ht1 := totO_succ OS i hlt
      have ht2 := totO_le OS (i + 1)
      have HX := hid (HOC.out _ (List.getElem_mem hlt))
      obtain ⟨x, hxs⟩ : ∃ x, OS[i] = x := ⟨_, rfl⟩
      rw [hxs] at hc0 hc1 hc2 hsx ht1 HX
      obtain ⟨kd, ot, xs⟩ := x
      dsimp only at hc0 hc1 hc2 hsx ht1 HX
      have HSX := hid hsx
      have d0 : wr.cell? ⟨b, o + i * 3, none⟩ = some (.int .i64 kd) := (HB.out.cell (block_lt_of_cell hc0)).trans hc0
      have d1 : wr.cell? ⟨b, o + i * 3 + 1, none⟩ = some (.bool ot) := (HB.out.cell (block_lt_of_cell hc1)).trans hc1
      have d2 : wr.cell? ⟨b, o + i * 3 + 2, none⟩ = some (.slice q xs.length c) := (HB.out.cell (block_lt_of_cell hc2)).trans hc2
      have i0 : (0 : Int) ≤ (i : Int) := by omega
      have i1 : (i : Int) < (OS.length : Int) := by omega
      clear hc0 hc1 hc2 hsx
      cases ot with
      | false =>
          go_wp2_with fail
          refine (step_any w.heap.size wr (w.heap.size + 1) w.heap.size ya xs hva cva kd false q c HA.out HX.out (by omega) (fun w' hb' => HSX.out.to (HB.out.trans hb')) (laid_to HL.out HB.out)).mono ?_
          rintro e w3 ⟨rfl, zs, hg, hzs⟩
          obtain ⟨⟨hv', cv', h1, h2, h3⟩, hb3⟩ := two_step HA.out HBt.out HAP.out hg
          have HN := hid (And.intro h1 (And.intro h2 h3))
          have HBN := hid (HB.out.trans hb3)
          clear hg h1 h2 h3 hb3
          go_wp2
          go_roundw
          case rel => exact ⟨i + 1, zs, yb, hv', cv', hvb, cvb, by omega, by go_num, by omega, by omega, hid HN.out.1, hid HN.out.2.1, hid HN.out.2.2, HBN⟩
          case measure => simp [intOf]; omega
      | true =>
          go_wp2_with fail
          refine (step_any w.heap.size wr (w.heap.size + 3) (w.heap.size + 2) yb xs hvb cvb kd true q c HBt.out HX.out (by omega) (fun w' hb' => HSX.out.to (HB.out.trans hb')) (laid_to HL.out HB.out)).mono ?_
          rintro e w3 ⟨rfl, zs, hg, hzs⟩
          obtain ⟨⟨hv', cv', h1, h2, h3⟩, hb3⟩ := two_step HBt.out HA.out HAP.out.symm hg
          have HN := hid (And.intro h1 (And.intro h2 h3))
          have HBN := hid (HB.out.trans hb3)
          clear hg h1 h2 h3 hb3
          go_wp2
          go_roundw
          case rel => exact ⟨i + 1, ya, zs, hva, cva, hv', cv', by omega, by go_num, by omega, by omega, hid HN.out.2.1, hid HN.out.1, hid HN.out.2.2.symm, HBN⟩
          case measure => simp [intOf]; omega
    · obtain rfl : i = OS.length := by omega
      obtain ⟨qa, ca, rfl⟩ := HA.out.len
      obtain ⟨qb, cb, rfl⟩ := HBt.out.len
      have keep : ∀ w' : World, Below wr.heap.size wr w' → ((w'.cell? ⟨w.heap.size + 1, 0, none⟩ = some (.pointer (some ⟨w.heap.size, 0, none⟩)) ∧ w'.cell? ⟨w.heap.size + 1, 1, none⟩ = some (.slice qa ya.length ca) ∧ w'.cell? ⟨w.heap.size + 3, 0, none⟩ = some (.pointer (some ⟨w.heap.size + 2, 0, none⟩)) ∧ w'.cell? ⟨w.heap.size + 3, 1, none⟩ = some (.slice qb yb.length cb)) ∧ Below wr.heap.size wr w') := by
        intro w' hb
        have h1 := (HA.out.to hb).2.1
        have h2 := (HBt.out.to hb).2.1
        exact ⟨⟨by rw [cell_of_row w' _ _ _ _ _ h1]; rfl, by rw [cell_of_row w' _ _ _ _ _ h1]; rfl, by rw [cell_of_row w' _ _ _ _ _ h2]; rfl, by rw [cell_of_row w' _ _ _ _ _ h2]; rfl⟩, hb⟩
      have KEEP := hid keep
      clear keep
      go_wp2
      go_region_held3 (fun w' => ((w'.cell? ⟨w.heap.size + 1, 0, none⟩ = some (.pointer (some ⟨w.heap.size, 0, none⟩)) ∧ w'.cell? ⟨w.heap.size + 1, 1, none⟩ = some (.slice qa ya.length ca) ∧ w'.cell? ⟨w.heap.size + 3, 0, none⟩ = some (.pointer (some ⟨w.heap.size + 2, 0, none⟩)) ∧ w'.cell? ⟨w.heap.size + 3, 1, none⟩ = some (.slice qb yb.length cb)) ∧ Below wr.heap.size wr w'))
        (first | exact KEEP.out _ (Below.drew (Below.refl _ _)) | exact KEEP.out _ HK.out)
        (first
        | (go_at_call 21; refine (rleft_any w.heap.size _ w.heap.size ya ((HA.out.to (by first | exact HK.out | exact Below.drew (Below.refl _ _))).2.2.1.rd)).mono ?_; rintro e wx ⟨rfl, rfl⟩; have HK := hid (show Below wr.heap.size wr _ from (by first | exact HK.out | exact Below.drew (Below.refl _ _))))
        | (go_at_call 21; refine (rleft_any w.heap.size _ (w.heap.size + 2) yb ((HBt.out.to (by first | exact HK.out | exact Below.drew (Below.refl _ _))).2.2.1.rd)).mono ?_; rintro e wx ⟨rfl, rfl⟩; have HK := hid (show Below wr.heap.size wr _ from (by first | exact HK.out | exact Below.drew (Below.refl _ _)))))
      all_goals
        go_wp2
        go_ret
        exact ⟨rfl, btr HB.out HK.out⟩
end Go.Proofs.YtffgcdhhjboppaaDoor
