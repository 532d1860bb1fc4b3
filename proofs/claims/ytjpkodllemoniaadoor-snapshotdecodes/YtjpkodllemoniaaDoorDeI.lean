/-
  The document's Decode.
-/
import Derived.Test.YtjpkodllemoniaaDoorDeH
import Derived.Test.YtjpkodllemoniaaDoorCpV
namespace Go.Proofs.YtjpkodllemoniaaDoor.Wi
open Go.RowKit Go.Deep Go.Proofs.YtjpkodllemoniaaDoor.Crc
open Go.Proofs.YtjpkodllemoniaaDoor.Cp (btr ball row_on row_cell row_lt row_frz row_ne set_row row6 Kp Or Osz orow ors ors_len own_form own_empty own_lo own_on own_osz bdrew1 bdrew setRow_kp setRow_below)
open Go.Proofs.YtjpkodllemoniaaDoor.Sr (RtW BoOk Rz)
set_option linter.unusedVariables false
set_option linter.unusedSimpArgs false
set_option maxHeartbeats 16000000
set_option maxRecDepth 100000
attribute [local go_sem ↓] Go.wp_at_zero Go.wp_at_succ
theorem reg_cut {P : Program} {id : Nat} {ops : Array Oper} {b : Bool} {Q : Exit → Act → World → Prop} {a : Act} {w : World} {X : Type} (F : Act → X → Act) (T : X → World → Prop)
    (h1 : (Code.region id ops b).wp P (fun e a' w' => match e with | .normal => ∃ x, a' = F a x ∧ T x w' | _ => False) a w)
    (h2 : ∀ x w', T x w' → Q .normal (F a x) w') : (Code.region id ops b).wp P Q a w :=
  wp_mono h1 (fun e a' w' h => by
    cases e with
    | normal => obtain ⟨x, rfl, ht⟩ := h; exact h2 x w' ht
    | _ => exact h.elim)
theorem step_store_row {P : Program} {w : World} {ops : Array Oper} {o : Oper} {a : Act} {K : Act → World → Prop} {Q : Exit → Act → World → Prop} {E : Prop} (hgd : o.guard = none) (ty : TypeId) (x y : Operand) (ho : o.op = .store ty x y)
    (g : Nat) (cells : Array Value) (hx : a.eval x = .pointer (some ⟨g, 0, none⟩)) (hy : a.eval y = .agg cells)
    (t : TypeId) (old : Array Value) (hg : w.heap[g]? = some (.cells old t (0, 0))) (hi : (P.info? ty).map (·.size) = some cells.size)
    (hold : old.size = cells.size) (h1 : cells.all (·.oneCell') = true)
    (h : K (a.put o.dst undef) (w.setRow g cells)) : if Region.wanted o (yielded ops a.tmps) = true then Oper.wp P o a w K Q else E := by
  have hw : Region.wanted o (yielded ops a.tmps) = true := by simp [Region.wanted, hgd]
  rw [if_pos hw]
  exact wp_store_row ty x y ho g cells hx hy t old hg hi hold h1 h
theorem rdec_magic (xs : List Nat) (b o cap n q : Nat) (w : World) (hB : Bs w b o xs) (hl : xs.length = n) (hq : q < n) (hq8 : q < 8) (hm : ∀ j, j < q → mgs xs j) (hno : ¬ mgs xs q) :
    Calls Tryd.prog 11 #[.slice (some ⟨b, o, none⟩) n cap] w fun e w' => e = .returned (.tuple #[.agg zb, .int .i64 q, .int .i64 22]) ∧ Below w.heap.size w w' := by
  have HB := hid hB
  have HL := hid hl
  have HM := hid hm
  have HNO := hid hno
  have HQ := hid hq
  have HQ8 := hid hq8
  clear hB hl hm hno hq hq8
  obtain ⟨W1, hW1⟩ : ∃ U, w.alloc (.cells #[.int .i64 0, .int .i64 0, .slice none 0 0, .slice none 0 0, .int .u64 0, .int .u64 0] 27) = U := ⟨_, rfl⟩
  obtain ⟨R1, hR1⟩ : ∃ R, w.heap.size = R := ⟨_, rfl⟩
  have HR1 := hid hR1
  have BA := hid (show Below w.heap.size w W1 from by rw [← hW1]; exact ball _ _)
  have Q0 := hid (show W1.heap[R1]? = some (.cells #[.int .i64 0, .int .i64 0, .slice none 0 0, .slice none 0 0, .int .u64 0, .int .u64 0] 27 (0, 0)) from by rw [← hW1, ← hR1]; exact World.alloc_heap_new _ _)
  go_enter Tryd.func11, Tryd.ntmps11
  go_upto_region 1 with fail
  (try rw [hW1, hR1])
  clear hW1 hR1
  go_upto_region 2 with fail
  go_loopw [5] (fun iv wr => ∃ i : Nat, i ≤ q ∧ iv = .int .i64 i ∧ Hid (Below W1.heap.size W1 wr)) (fun iv _ => q + 1 - (intOf iv).toNat)
  case atStart => exact ⟨0, Nat.zero_le _, rfl, Below.refl _ _⟩
  case round =>
    obtain ⟨i, hiq, rfl, BW⟩ := hrel
    have i8 : i < 8 := by have := HQ8.out; omega
    have ixs : i < xs.length := by rw [HL.out]; have := HQ.out; omega
    obtain ⟨m, hm⟩ : ∃ m, xs[i] = m := ⟨_, rfl⟩
    obtain ⟨m2, hm2⟩ : ∃ m2, mag[i]'i8 = m2 := ⟨_, rfl⟩
    have BWw := hid (btr BA.out BW.out)
    have cb : wr.cell? ⟨b, o + i, none⟩ = some (.int .u8 ((m : Nat) : Int)) := by
      rw [← hm]
      exact (BWw.out.cell (p := ⟨b, o + i, none⟩) (World.block_lt_of_cell? w _ (HB.out i ixs))).trans (HB.out i ixs)
    have IX := hid (fun w' => show (Instr.index 9 (.string ⟨#[66, 82, 83, 66, 79, 79, 75, 49]⟩) (.int .i64 ((i : Nat) : Int))).run Tryd.prog w' = .ok (.int .u8 ((m2 : Nat) : Int)) w' from by
      rw [run_index_string w' 9 _ .i64 _ Tryd.underlying9, dif_pos ⟨by omega, by show ((i : Nat) : Int) < 8; omega⟩]
      rcases below8 i8 with rfl | rfl | rfl | rfl | rfl | rfl | rfl | rfl <;> (rw [← hm2]; rfl))
    have i0' : (0 : Int) ≤ (i : Int) := by omega
    have i1 : (i : Int) < 8 := by omega
    have i2 : (i : Int) < (n : Int) := by have := HQ.out; omega
    have i3 : ((i : Int) == (n : Int)) = false := by simp only [beq_eq_false_iff_ne, ne_eq, Int.ofNat_inj]; have := HQ.out; omega
    have wi : IntKind.i64.wrap ((i : Int) + 1) = ((i + 1 : Nat) : Int) := by rw [IntKind.wrap_i64]; omega
    have EQ := hid (show mgs xs i ↔ m = m2 from by unfold mgs; rw [List.getElem?_eq_getElem ixs, List.getElem?_eq_getElem i8, hm, hm2]; exact Option.some_inj)
    go_upto_region 6 with fail
    have ix := IX.out
    go_big_quiet (fail)
    have BW2 := hid (btr BW.out (bdrew _ nq))
    by_cases c : i = q
    · subst c
      rw [show ((m : Int) != (m2 : Int)) = true from by simp only [bne_iff_ne, ne_eq, Int.ofNat_inj]; exact fun e => HNO.out (EQ.out.2 e)]
      obtain ⟨V0, hV0⟩ : ∃ U, wr.drewN nq = U := ⟨_, rfl⟩
      rw [hV0] at BW2 ⊢
      have Q1 := hid (row_on Q0.out BW2.out)
      have BV := hid (btr BA.out BW2.out)
      obtain ⟨x0, x1, x2, x3, x4, x5⟩ := row6 Q1.out
      have g0 := row_frz Q1.out 0
      have g1 := row_frz Q1.out 1
      have g2 := row_frz Q1.out 2
      have g3 := row_frz Q1.out 3
      have g4 := row_frz Q1.out 4
      have g5 := row_frz Q1.out 5
      obtain ⟨Y, hY⟩ : ∃ Y, (((((((V0).setCell ⟨R1, 0, none⟩ (.int .i64 0)).setCell ⟨R1, 1, none⟩ (.int .i64 0)).setCell ⟨R1, 2, none⟩ (.slice none 0 0)).setCell ⟨R1, 3, none⟩ (.slice none 0 0)).setCell ⟨R1, 4, none⟩ (.int .u64 0)).setCell ⟨R1, 5, none⟩ (.int .u64 0)) = Y := ⟨_, rfl⟩
      have KY := hid (show Kp (fun b => b = R1) (V0) Y from by rw [← hY]; exact chain6_kp _ _ _ _ _ _ _ _)
      have QY := hid (show Y.heap[R1]? = some (.cells #[.int .i64 0, .int .i64 0, .slice none 0 0, .slice none 0 0, .int .u64 0, .int .u64 0] 27 (0, 0)) from by rw [← hY]; exact chain6 _ _ _ _ _ _ Q1.out)
      go_wp2
      (try rw [hY])
      exact bodyPost_ret (res3 _ 2 3 4 Tryd.results11 _ _ R1 #[.int .i64 0, .int .i64 0, .slice none 0 0, .slice none 0 0, .int .u64 0, .int .u64 0] _ _ (by rfl) (by rfl) (by rfl) QY.out infoB) rfl ⟨rfl, (BV.out.trans (KY.out.below BV.out.size (fun q hq e => by have := HR1.out; omega)))⟩
    · have HLT := hid (show i < q from by omega)
      rw [show ((m : Int) != (m2 : Int)) = false from by have := EQ.out.1 (HM.out i HLT.out); simp [this]]
      go_wp2
      go_roundw
      case rel => exact ⟨i + 1, HLT.out, by go_num, BW2⟩
      case measure => have := HLT.out; simp [intOf]; omega
theorem rdec_empty (p : Option Addr) (cap : Nat) (w : World) :
    Calls Tryd.prog 11 #[.slice p 0 cap] w fun e w' => e = .returned (.tuple #[.agg zb, .int .i64 0, .int .i64 20]) ∧ Below w.heap.size w w' := by
  obtain ⟨W1, hW1⟩ : ∃ U, w.alloc (.cells #[.int .i64 0, .int .i64 0, .slice none 0 0, .slice none 0 0, .int .u64 0, .int .u64 0] 27) = U := ⟨_, rfl⟩
  obtain ⟨R1, hR1⟩ : ∃ R, w.heap.size = R := ⟨_, rfl⟩
  have HR1 := hid hR1
  have BA := hid (show Below w.heap.size w W1 from by rw [← hW1]; exact ball _ _)
  have Q0 := hid (show W1.heap[R1]? = some (.cells #[.int .i64 0, .int .i64 0, .slice none 0 0, .slice none 0 0, .int .u64 0, .int .u64 0] 27 (0, 0)) from by rw [← hW1, ← hR1]; exact World.alloc_heap_new _ _)
  go_enter Tryd.func11, Tryd.ntmps11
  go_upto_region 1 with fail
  (try rw [hW1, hR1])
  clear hW1 hR1
  go_upto_region 2 with fail
  go_loopw [5] (fun iv wr => iv = .int .i64 0 ∧ Hid (Below W1.heap.size W1 wr)) (fun iv _ => 0)
  case atStart => exact ⟨rfl, Below.refl _ _⟩
  case round =>
    obtain ⟨rfl, BW⟩ := hrel
    have Q1 := hid (row_on Q0.out BW.out)
    have BV := hid (btr BA.out BW.out)
    obtain ⟨x0, x1, x2, x3, x4, x5⟩ := row6 Q1.out
    have g0 := row_frz Q1.out 0
    have g1 := row_frz Q1.out 1
    have g2 := row_frz Q1.out 2
    have g3 := row_frz Q1.out 3
    have g4 := row_frz Q1.out 4
    have g5 := row_frz Q1.out 5
    obtain ⟨Y, hY⟩ : ∃ Y, (((((((wr).setCell ⟨R1, 0, none⟩ (.int .i64 0)).setCell ⟨R1, 1, none⟩ (.int .i64 0)).setCell ⟨R1, 2, none⟩ (.slice none 0 0)).setCell ⟨R1, 3, none⟩ (.slice none 0 0)).setCell ⟨R1, 4, none⟩ (.int .u64 0)).setCell ⟨R1, 5, none⟩ (.int .u64 0)) = Y := ⟨_, rfl⟩
    have KY := hid (show Kp (fun b => b = R1) (wr) Y from by rw [← hY]; exact chain6_kp _ _ _ _ _ _ _ _)
    have QY := hid (show Y.heap[R1]? = some (.cells #[.int .i64 0, .int .i64 0, .slice none 0 0, .slice none 0 0, .int .u64 0, .int .u64 0] 27 (0, 0)) from by rw [← hY]; exact chain6 _ _ _ _ _ _ Q1.out)
    go_wp2
    (try rw [hY])
    exact bodyPost_ret (res3 _ 2 3 4 Tryd.results11 _ _ R1 #[.int .i64 0, .int .i64 0, .slice none 0 0, .slice none 0 0, .int .u64 0, .int .u64 0] _ _ (by rfl) (by rfl) (by rfl) QY.out infoB) rfl ⟨rfl, (BV.out.trans (KY.out.below BV.out.size (fun q hq e => by have := HR1.out; omega)))⟩
theorem rdec_short (xs : List Nat) (b o cap n : Nat) (w : World) (hB : Bs w b o xs) (hl : xs.length = n) (hn8 : n < 8) (hm : ∀ j, j < n → mgs xs j) :
    Calls Tryd.prog 11 #[.slice (some ⟨b, o, none⟩) n cap] w fun e w' => e = .returned (.tuple #[.agg zb, .int .i64 n, .int .i64 20]) ∧ Below w.heap.size w w' := by
  have HB := hid hB
  have HL := hid hl
  have HM := hid hm
  have HN8 := hid hn8
  clear hB hl hm hn8
  obtain ⟨W1, hW1⟩ : ∃ U, w.alloc (.cells #[.int .i64 0, .int .i64 0, .slice none 0 0, .slice none 0 0, .int .u64 0, .int .u64 0] 27) = U := ⟨_, rfl⟩
  obtain ⟨R1, hR1⟩ : ∃ R, w.heap.size = R := ⟨_, rfl⟩
  have HR1 := hid hR1
  have BA := hid (show Below w.heap.size w W1 from by rw [← hW1]; exact ball _ _)
  have Q0 := hid (show W1.heap[R1]? = some (.cells #[.int .i64 0, .int .i64 0, .slice none 0 0, .slice none 0 0, .int .u64 0, .int .u64 0] 27 (0, 0)) from by rw [← hW1, ← hR1]; exact World.alloc_heap_new _ _)
  go_enter Tryd.func11, Tryd.ntmps11
  go_upto_region 1 with fail
  (try rw [hW1, hR1])
  clear hW1 hR1
  go_upto_region 2 with fail
  go_loopw [5] (fun iv wr => ∃ i : Nat, i ≤ n ∧ iv = .int .i64 i ∧ Hid (Below W1.heap.size W1 wr)) (fun iv _ => n + 1 - (intOf iv).toNat)
  case atStart => exact ⟨0, Nat.zero_le _, rfl, Below.refl _ _⟩
  case round =>
    obtain ⟨i, hiq, rfl, BW⟩ := hrel
    by_cases c : i < n
    · have HI := hid c
      have i8 : i < 8 := by have := HN8.out; have := HI.out; omega
      have ixs : i < xs.length := by rw [HL.out]; have := HI.out; omega
      obtain ⟨m, hm⟩ : ∃ m, xs[i] = m := ⟨_, rfl⟩
      obtain ⟨m2, hm2⟩ : ∃ m2, mag[i]'i8 = m2 := ⟨_, rfl⟩
      have BWw := hid (btr BA.out BW.out)
      have cb : wr.cell? ⟨b, o + i, none⟩ = some (.int .u8 ((m : Nat) : Int)) := by
        rw [← hm]
        exact (BWw.out.cell (p := ⟨b, o + i, none⟩) (World.block_lt_of_cell? w _ (HB.out i ixs))).trans (HB.out i ixs)
      have IX := hid (fun w' => show (Instr.index 9 (.string ⟨#[66, 82, 83, 66, 79, 79, 75, 49]⟩) (.int .i64 ((i : Nat) : Int))).run Tryd.prog w' = .ok (.int .u8 ((m2 : Nat) : Int)) w' from by
        rw [run_index_string w' 9 _ .i64 _ Tryd.underlying9, dif_pos ⟨by omega, by show ((i : Nat) : Int) < 8; omega⟩]
        rcases below8 i8 with rfl | rfl | rfl | rfl | rfl | rfl | rfl | rfl <;> (rw [← hm2]; rfl))
      have i0' : (0 : Int) ≤ (i : Int) := by omega
      have i1 : (i : Int) < 8 := by omega
      have i2 : (i : Int) < (n : Int) := by have := HI.out; omega
      have i3 : ((i : Int) == (n : Int)) = false := by simp only [beq_eq_false_iff_ne, ne_eq, Int.ofNat_inj]; have := HI.out; omega
      have wi : IntKind.i64.wrap ((i : Int) + 1) = ((i + 1 : Nat) : Int) := by rw [IntKind.wrap_i64]; omega
      have EQ := hid (show mgs xs i ↔ m = m2 from by unfold mgs; rw [List.getElem?_eq_getElem ixs, List.getElem?_eq_getElem i8, hm, hm2]; exact Option.some_inj)
      go_upto_region 6 with fail
      have ix := IX.out
      go_big_quiet (fail)
      have BW2 := hid (btr BW.out (bdrew _ nq))
      have HLT := hid (show i < n from by omega)
      rw [show ((m : Int) != (m2 : Int)) = false from by have := EQ.out.1 (HM.out i HLT.out); simp [this]]
      go_wp2
      go_roundw
      case rel => exact ⟨i + 1, HLT.out, by go_num, BW2⟩
      case measure => have := HLT.out; simp [intOf]; omega
    · obtain rfl : i = n := by omega
      have i1 : (i : Int) < 8 := by have := HN8.out; omega
      have i3 : ((i : Int) == (i : Int)) = true := by simp
      have Q1 := hid (row_on Q0.out BW.out)
      have BV := hid (btr BA.out BW.out)
      obtain ⟨x0, x1, x2, x3, x4, x5⟩ := row6 Q1.out
      have g0 := row_frz Q1.out 0
      have g1 := row_frz Q1.out 1
      have g2 := row_frz Q1.out 2
      have g3 := row_frz Q1.out 3
      have g4 := row_frz Q1.out 4
      have g5 := row_frz Q1.out 5
      obtain ⟨Y, hY⟩ : ∃ Y, (((((((wr).setCell ⟨R1, 0, none⟩ (.int .i64 0)).setCell ⟨R1, 1, none⟩ (.int .i64 0)).setCell ⟨R1, 2, none⟩ (.slice none 0 0)).setCell ⟨R1, 3, none⟩ (.slice none 0 0)).setCell ⟨R1, 4, none⟩ (.int .u64 0)).setCell ⟨R1, 5, none⟩ (.int .u64 0)) = Y := ⟨_, rfl⟩
      have KY := hid (show Kp (fun b => b = R1) (wr) Y from by rw [← hY]; exact chain6_kp _ _ _ _ _ _ _ _)
      have QY := hid (show Y.heap[R1]? = some (.cells #[.int .i64 0, .int .i64 0, .slice none 0 0, .slice none 0 0, .int .u64 0, .int .u64 0] 27 (0, 0)) from by rw [← hY]; exact chain6 _ _ _ _ _ _ Q1.out)
      go_wp2
      (try rw [hY])
      exact bodyPost_ret (res3 _ 2 3 4 Tryd.results11 _ _ R1 #[.int .i64 0, .int .i64 0, .slice none 0 0, .slice none 0 0, .int .u64 0, .int .u64 0] _ _ (by rfl) (by rfl) (by rfl) QY.out infoB) rfl ⟨rfl, (BV.out.trans (KY.out.below BV.out.size (fun q hq e => by have := HR1.out; omega)))⟩
theorem rdec_head (xs : List Nat) (b o cap n : Nat) (w : World) (hx : Oct xs) (hB : Bs w b o xs) (hl : xs.length = n) (hn : n < 9223372036854775000) (h8 : 8 ≤ n) (hm : ∀ j, j < 8 → mgs xs j) (h31 : n < 31) :
    Calls Tryd.prog 11 #[.slice (some ⟨b, o, none⟩) n cap] w fun e w' => e = .returned (.tuple #[.agg zb, .int .i64 n, .int .i64 20]) ∧ Below w.heap.size w w' := by
  have HX := hid hx
  have HB := hid hB
  have HL := hid hl
  have HM := hid hm
  have HN := hid hn
  have H8 := hid h8
  clear hB hl hm hn h8 hx
  have c31 : (n : Int) < 31 := by omega
  obtain ⟨W1, hW1⟩ : ∃ U, w.alloc (.cells #[.int .i64 0, .int .i64 0, .slice none 0 0, .slice none 0 0, .int .u64 0, .int .u64 0] 27) = U := ⟨_, rfl⟩
  obtain ⟨R1, hR1⟩ : ∃ R, w.heap.size = R := ⟨_, rfl⟩
  have HR1 := hid hR1
  have BA := hid (show Below w.heap.size w W1 from by rw [← hW1]; exact ball _ _)
  have Q0 := hid (show W1.heap[R1]? = some (.cells #[.int .i64 0, .int .i64 0, .slice none 0 0, .slice none 0 0, .int .u64 0, .int .u64 0] 27 (0, 0)) from by rw [← hW1, ← hR1]; exact World.alloc_heap_new _ _)
  go_enter Tryd.func11, Tryd.ntmps11
  go_upto_region 1 with fail
  (try rw [hW1, hR1])
  clear hW1 hR1
  go_upto_region 2 with fail
  go_loopw [5] (fun iv wr => ∃ i : Nat, i ≤ 8 ∧ iv = .int .i64 i ∧ Hid (Below W1.heap.size W1 wr)) (fun iv _ => 8 + 1 - (intOf iv).toNat)
  case atStart => exact ⟨0, Nat.zero_le _, rfl, Below.refl _ _⟩
  case round =>
    obtain ⟨i, hiq, rfl, BW⟩ := hrel
    by_cases c : i < 8
    · have HI := hid c
      have i8 : i < 8 := by exact HI.out
      have ixs : i < xs.length := by rw [HL.out]; have := HI.out; have := H8.out; omega
      obtain ⟨m, hm⟩ : ∃ m, xs[i] = m := ⟨_, rfl⟩
      obtain ⟨m2, hm2⟩ : ∃ m2, mag[i]'i8 = m2 := ⟨_, rfl⟩
      have BWw := hid (btr BA.out BW.out)
      have cb : wr.cell? ⟨b, o + i, none⟩ = some (.int .u8 ((m : Nat) : Int)) := by
        rw [← hm]
        exact (BWw.out.cell (p := ⟨b, o + i, none⟩) (World.block_lt_of_cell? w _ (HB.out i ixs))).trans (HB.out i ixs)
      have IX := hid (fun w' => show (Instr.index 9 (.string ⟨#[66, 82, 83, 66, 79, 79, 75, 49]⟩) (.int .i64 ((i : Nat) : Int))).run Tryd.prog w' = .ok (.int .u8 ((m2 : Nat) : Int)) w' from by
        rw [run_index_string w' 9 _ .i64 _ Tryd.underlying9, dif_pos ⟨by omega, by show ((i : Nat) : Int) < 8; omega⟩]
        rcases below8 i8 with rfl | rfl | rfl | rfl | rfl | rfl | rfl | rfl <;> (rw [← hm2]; rfl))
      have i0' : (0 : Int) ≤ (i : Int) := by omega
      have i1 : (i : Int) < 8 := by omega
      have i2 : (i : Int) < (n : Int) := by have := HI.out; have := H8.out; omega
      have i3 : ((i : Int) == (n : Int)) = false := by simp only [beq_eq_false_iff_ne, ne_eq, Int.ofNat_inj]; have := HI.out; have := H8.out; omega
      have wi : IntKind.i64.wrap ((i : Int) + 1) = ((i + 1 : Nat) : Int) := by rw [IntKind.wrap_i64]; omega
      have EQ := hid (show mgs xs i ↔ m = m2 from by unfold mgs; rw [List.getElem?_eq_getElem ixs, List.getElem?_eq_getElem i8, hm, hm2]; exact Option.some_inj)
      go_upto_region 6 with fail
      have ix := IX.out
      go_big_quiet (fail)
      have BW2 := hid (btr BW.out (bdrew _ nq))
      have HLT := hid (show i < 8 from by omega)
      rw [show ((m : Int) != (m2 : Int)) = false from by have := EQ.out.1 (HM.out i HLT.out); simp [this]]
      go_wp2
      go_roundw
      case rel => exact ⟨i + 1, HLT.out, by go_num, BW2⟩
      case measure => have := HLT.out; simp [intOf]; omega
    · obtain rfl : i = 8 := by omega
      clear c hiq
      have Q1 := hid (row_on Q0.out BW.out)
      have BV := hid (btr BA.out BW.out)
      clear Q0 BA BW
      obtain ⟨x0, x1, x2, x3, x4, x5⟩ := row6 Q1.out
      have g0 := row_frz Q1.out 0
      have g1 := row_frz Q1.out 1
      have g2 := row_frz Q1.out 2
      have g3 := row_frz Q1.out 3
      have g4 := row_frz Q1.out 4
      have g5 := row_frz Q1.out 5
      obtain ⟨Y, hY⟩ : ∃ Y, (((((((wr).setCell ⟨R1, 0, none⟩ (.int .i64 0)).setCell ⟨R1, 1, none⟩ (.int .i64 0)).setCell ⟨R1, 2, none⟩ (.slice none 0 0)).setCell ⟨R1, 3, none⟩ (.slice none 0 0)).setCell ⟨R1, 4, none⟩ (.int .u64 0)).setCell ⟨R1, 5, none⟩ (.int .u64 0)) = Y := ⟨_, rfl⟩
      have KY := hid (show Kp (fun b => b = R1) (wr) Y from by rw [← hY]; exact chain6_kp _ _ _ _ _ _ _ _)
      have QY := hid (show Y.heap[R1]? = some (.cells #[.int .i64 0, .int .i64 0, .slice none 0 0, .slice none 0 0, .int .u64 0, .int .u64 0] 27 (0, 0)) from by rw [← hY]; exact chain6 _ _ _ _ _ _ Q1.out)
      go_wp2
      (try rw [hY])
      exact bodyPost_ret (res3 _ 2 3 4 Tryd.results11 _ _ R1 #[.int .i64 0, .int .i64 0, .slice none 0 0, .slice none 0 0, .int .u64 0, .int .u64 0] _ _ (by rfl) (by rfl) (by rfl) QY.out infoB) rfl ⟨rfl, (BV.out.trans (KY.out.below BV.out.size (fun q hq e => by have := HR1.out; omega)))⟩
theorem rdec_less (xs : List Nat) (b o cap n : Nat) (w : World) (hx : Oct xs) (hB : Bs w b o xs) (hl : xs.length = n) (hn : n < 9223372036854775000) (h8 : 8 ≤ n) (hm : ∀ j, j < 8 → mgs xs j) (nb ns D : Nat) (h31 : 31 ≤ n) (hnb : nat' xs 27 2 = nb) (hns : nat' xs 29 2 = ns) (hD : 31 + 29 * (nb + ns) = D) (hs : n < D + 4) :
    Calls Tryd.prog 11 #[.slice (some ⟨b, o, none⟩) n cap] w fun e w' => e = .returned (.tuple #[.agg zb, .int .i64 n, .int .i64 20]) ∧ Below w.heap.size w w' := by
  have HX := hid hx
  have HB := hid hB
  have HL := hid hl
  have HM := hid hm
  have HN := hid hn
  have H8 := hid h8
  clear hB hl hm hn h8 hx
  have c31 : ¬ (n : Int) < 31 := by omega
  have H31 := hid h31
  have LB := hid (show nb < 65536 from by rw [← hnb]; exact nat_lt HX.out 27 2)
  have LS := hid (show ns < 65536 from by rw [← hns]; exact nat_lt HX.out 29 2)
  have HD := hid hD
  have HNB := hid hnb
  have HNS := hid hns
  have wn1 : IntKind.i64.wrap ((nb : Nat) : Int) = ((nb : Nat) : Int) := by have := LB.out; rw [IntKind.wrap_i64]; omega
  have wn2 : IntKind.i64.wrap ((ns : Nat) : Int) = ((ns : Nat) : Int) := by have := LS.out; rw [IntKind.wrap_i64]; omega
  have wa : IntKind.i64.wrap ((nb : Int) + (ns : Int)) = (nb : Int) + (ns : Int) := by have := LB.out; have := LS.out; rw [IntKind.wrap_i64]; omega
  have wb : IntKind.i64.wrap (29 * ((nb : Int) + (ns : Int))) = 29 * ((nb : Int) + (ns : Int)) := by have := LB.out; have := LS.out; rw [IntKind.wrap_i64]; omega
  have wc : IntKind.i64.wrap (31 + 29 * ((nb : Int) + (ns : Int))) = (D : Int) := by have := LB.out; have := LS.out; rw [IntKind.wrap_i64]; omega
  have wD : IntKind.i64.wrap ((D : Int) + 4) = (D : Int) + 4 := by have := LB.out; have := LS.out; rw [IntKind.wrap_i64]; omega
  have RG := hid (fun (U : World) (hU : Below w.heap.size w U) (p q : Nat) (hq : q ≤ 8) (hp : p + q ≤ n) => show Calls Tryd.prog 27 #[.slice (some ⟨b, o, none⟩) n cap, .int .i64 p, .int .i64 q] U fun e w' => e = .returned (.int .u64 (nat' xs p q : Nat)) ∧ w' = U from
    rget_any xs ((xs.drop p).take q) b o cap n p q U (oct_take (oct_drop HX.out p) q) (fun i hi => (hU.cell (p := ⟨b, o + i, none⟩) (World.block_lt_of_cell? w _ (HB.out i hi))).trans (HB.out i hi)) HL.out HN.out rfl (by rw [List.length_take, List.length_drop, HL.out]; omega) hq)
  have TB := hid (fun (U : World) (hU : Below w.heap.size w U) => show Calls Tryd.prog 27 #[.slice (some ⟨b, o, none⟩) n cap, .int .i64 27, .int .i64 2] U fun e w' => e = .returned (.int .u64 (nb : Nat)) ∧ w' = U from by have h := RG.out U hU 27 2 (by decide) (by have := H31.out; omega); rw [HNB.out] at h; exact h)
  have TS := hid (fun (U : World) (hU : Below w.heap.size w U) => show Calls Tryd.prog 27 #[.slice (some ⟨b, o, none⟩) n cap, .int .i64 29, .int .i64 2] U fun e w' => e = .returned (.int .u64 (ns : Nat)) ∧ w' = U from by have h := RG.out U hU 29 2 (by decide) (by have := H31.out; omega); rw [HNS.out] at h; exact h)
  clear h31 hnb hns hD
  have cD : (n : Int) < (D : Int) + 4 := by omega
  clear hs
  obtain ⟨W1, hW1⟩ : ∃ U, w.alloc (.cells #[.int .i64 0, .int .i64 0, .slice none 0 0, .slice none 0 0, .int .u64 0, .int .u64 0] 27) = U := ⟨_, rfl⟩
  obtain ⟨R1, hR1⟩ : ∃ R, w.heap.size = R := ⟨_, rfl⟩
  have HR1 := hid hR1
  have BA := hid (show Below w.heap.size w W1 from by rw [← hW1]; exact ball _ _)
  have Q0 := hid (show W1.heap[R1]? = some (.cells #[.int .i64 0, .int .i64 0, .slice none 0 0, .slice none 0 0, .int .u64 0, .int .u64 0] 27 (0, 0)) from by rw [← hW1, ← hR1]; exact World.alloc_heap_new _ _)
  go_enter Tryd.func11, Tryd.ntmps11
  go_upto_region 1 with fail
  (try rw [hW1, hR1])
  clear hW1 hR1
  go_upto_region 2 with fail
  go_loopw [5] (fun iv wr => ∃ i : Nat, i ≤ 8 ∧ iv = .int .i64 i ∧ Hid (Below W1.heap.size W1 wr)) (fun iv _ => 8 + 1 - (intOf iv).toNat)
  case atStart => exact ⟨0, Nat.zero_le _, rfl, Below.refl _ _⟩
  case round =>
    obtain ⟨i, hiq, rfl, BW⟩ := hrel
    by_cases c : i < 8
    · have HI := hid c
      have i8 : i < 8 := by exact HI.out
      have ixs : i < xs.length := by rw [HL.out]; have := HI.out; have := H8.out; omega
      obtain ⟨m, hm⟩ : ∃ m, xs[i] = m := ⟨_, rfl⟩
      obtain ⟨m2, hm2⟩ : ∃ m2, mag[i]'i8 = m2 := ⟨_, rfl⟩
      have BWw := hid (btr BA.out BW.out)
      have cb : wr.cell? ⟨b, o + i, none⟩ = some (.int .u8 ((m : Nat) : Int)) := by
        rw [← hm]
        exact (BWw.out.cell (p := ⟨b, o + i, none⟩) (World.block_lt_of_cell? w _ (HB.out i ixs))).trans (HB.out i ixs)
      have IX := hid (fun w' => show (Instr.index 9 (.string ⟨#[66, 82, 83, 66, 79, 79, 75, 49]⟩) (.int .i64 ((i : Nat) : Int))).run Tryd.prog w' = .ok (.int .u8 ((m2 : Nat) : Int)) w' from by
        rw [run_index_string w' 9 _ .i64 _ Tryd.underlying9, dif_pos ⟨by omega, by show ((i : Nat) : Int) < 8; omega⟩]
        rcases below8 i8 with rfl | rfl | rfl | rfl | rfl | rfl | rfl | rfl <;> (rw [← hm2]; rfl))
      have i0' : (0 : Int) ≤ (i : Int) := by omega
      have i1 : (i : Int) < 8 := by omega
      have i2 : (i : Int) < (n : Int) := by have := HI.out; have := H8.out; omega
      have i3 : ((i : Int) == (n : Int)) = false := by simp only [beq_eq_false_iff_ne, ne_eq, Int.ofNat_inj]; have := HI.out; have := H8.out; omega
      have wi : IntKind.i64.wrap ((i : Int) + 1) = ((i + 1 : Nat) : Int) := by rw [IntKind.wrap_i64]; omega
      have EQ := hid (show mgs xs i ↔ m = m2 from by unfold mgs; rw [List.getElem?_eq_getElem ixs, List.getElem?_eq_getElem i8, hm, hm2]; exact Option.some_inj)
      go_upto_region 6 with fail
      have ix := IX.out
      go_big_quiet (fail)
      have BW2 := hid (btr BW.out (bdrew _ nq))
      have HLT := hid (show i < 8 from by omega)
      rw [show ((m : Int) != (m2 : Int)) = false from by have := EQ.out.1 (HM.out i HLT.out); simp [this]]
      go_wp2
      go_roundw
      case rel => exact ⟨i + 1, HLT.out, by go_num, BW2⟩
      case measure => have := HLT.out; simp [intOf]; omega
    · obtain rfl : i = 8 := by omega
      clear c hiq
      have Q1 := hid (row_on Q0.out BW.out)
      have BV := hid (btr BA.out BW.out)
      clear Q0 BA BW
      go_upto_region 10 with fail
      go_upto_region 11 with (first | (go_at_call 27; with_reducible refine (TB.out _ BV.out).mono ?_; rintro e _ ⟨rfl, he⟩; have he := he.symm; subst he) | (go_at_call 27; with_reducible refine (TS.out _ BV.out).mono ?_; rintro e _ ⟨rfl, he⟩; have he := he.symm; subst he))
      go_upto_region 12 with fail
      obtain ⟨x0, x1, x2, x3, x4, x5⟩ := row6 Q1.out
      have g0 := row_frz Q1.out 0
      have g1 := row_frz Q1.out 1
      have g2 := row_frz Q1.out 2
      have g3 := row_frz Q1.out 3
      have g4 := row_frz Q1.out 4
      have g5 := row_frz Q1.out 5
      obtain ⟨Y, hY⟩ : ∃ Y, (((((((wr).setCell ⟨R1, 0, none⟩ (.int .i64 0)).setCell ⟨R1, 1, none⟩ (.int .i64 0)).setCell ⟨R1, 2, none⟩ (.slice none 0 0)).setCell ⟨R1, 3, none⟩ (.slice none 0 0)).setCell ⟨R1, 4, none⟩ (.int .u64 0)).setCell ⟨R1, 5, none⟩ (.int .u64 0)) = Y := ⟨_, rfl⟩
      have KY := hid (show Kp (fun b => b = R1) (wr) Y from by rw [← hY]; exact chain6_kp _ _ _ _ _ _ _ _)
      have QY := hid (show Y.heap[R1]? = some (.cells #[.int .i64 0, .int .i64 0, .slice none 0 0, .slice none 0 0, .int .u64 0, .int .u64 0] 27 (0, 0)) from by rw [← hY]; exact chain6 _ _ _ _ _ _ Q1.out)
      go_wp2
      (try rw [hY])
      exact bodyPost_ret (res3 _ 2 3 4 Tryd.results11 _ _ R1 #[.int .i64 0, .int .i64 0, .slice none 0 0, .slice none 0 0, .int .u64 0, .int .u64 0] _ _ (by rfl) (by rfl) (by rfl) QY.out infoB) rfl ⟨rfl, (BV.out.trans (KY.out.below BV.out.size (fun q hq e => by have := HR1.out; omega)))⟩
theorem rdec_more (xs : List Nat) (b o cap n : Nat) (w : World) (hx : Oct xs) (hB : Bs w b o xs) (hl : xs.length = n) (hn : n < 9223372036854775000) (h8 : 8 ≤ n) (hm : ∀ j, j < 8 → mgs xs j) (nb ns D : Nat) (h31 : 31 ≤ n) (hnb : nat' xs 27 2 = nb) (hns : nat' xs 29 2 = ns) (hD : 31 + 29 * (nb + ns) = D) (hs : D + 4 < n) :
    Calls Tryd.prog 11 #[.slice (some ⟨b, o, none⟩) n cap] w fun e w' => e = .returned (.tuple #[.agg zb, .int .i64 ((D : Int) + 4), .int .i64 2]) ∧ Below w.heap.size w w' := by
  have HX := hid hx
  have HB := hid hB
  have HL := hid hl
  have HM := hid hm
  have HN := hid hn
  have H8 := hid h8
  clear hB hl hm hn h8 hx
  have c31 : ¬ (n : Int) < 31 := by omega
  have H31 := hid h31
  have LB := hid (show nb < 65536 from by rw [← hnb]; exact nat_lt HX.out 27 2)
  have LS := hid (show ns < 65536 from by rw [← hns]; exact nat_lt HX.out 29 2)
  have HD := hid hD
  have HNB := hid hnb
  have HNS := hid hns
  have wn1 : IntKind.i64.wrap ((nb : Nat) : Int) = ((nb : Nat) : Int) := by have := LB.out; rw [IntKind.wrap_i64]; omega
  have wn2 : IntKind.i64.wrap ((ns : Nat) : Int) = ((ns : Nat) : Int) := by have := LS.out; rw [IntKind.wrap_i64]; omega
  have wa : IntKind.i64.wrap ((nb : Int) + (ns : Int)) = (nb : Int) + (ns : Int) := by have := LB.out; have := LS.out; rw [IntKind.wrap_i64]; omega
  have wb : IntKind.i64.wrap (29 * ((nb : Int) + (ns : Int))) = 29 * ((nb : Int) + (ns : Int)) := by have := LB.out; have := LS.out; rw [IntKind.wrap_i64]; omega
  have wc : IntKind.i64.wrap (31 + 29 * ((nb : Int) + (ns : Int))) = (D : Int) := by have := LB.out; have := LS.out; rw [IntKind.wrap_i64]; omega
  have wD : IntKind.i64.wrap ((D : Int) + 4) = (D : Int) + 4 := by have := LB.out; have := LS.out; rw [IntKind.wrap_i64]; omega
  have RG := hid (fun (U : World) (hU : Below w.heap.size w U) (p q : Nat) (hq : q ≤ 8) (hp : p + q ≤ n) => show Calls Tryd.prog 27 #[.slice (some ⟨b, o, none⟩) n cap, .int .i64 p, .int .i64 q] U fun e w' => e = .returned (.int .u64 (nat' xs p q : Nat)) ∧ w' = U from
    rget_any xs ((xs.drop p).take q) b o cap n p q U (oct_take (oct_drop HX.out p) q) (fun i hi => (hU.cell (p := ⟨b, o + i, none⟩) (World.block_lt_of_cell? w _ (HB.out i hi))).trans (HB.out i hi)) HL.out HN.out rfl (by rw [List.length_take, List.length_drop, HL.out]; omega) hq)
  have TB := hid (fun (U : World) (hU : Below w.heap.size w U) => show Calls Tryd.prog 27 #[.slice (some ⟨b, o, none⟩) n cap, .int .i64 27, .int .i64 2] U fun e w' => e = .returned (.int .u64 (nb : Nat)) ∧ w' = U from by have h := RG.out U hU 27 2 (by decide) (by have := H31.out; omega); rw [HNB.out] at h; exact h)
  have TS := hid (fun (U : World) (hU : Below w.heap.size w U) => show Calls Tryd.prog 27 #[.slice (some ⟨b, o, none⟩) n cap, .int .i64 29, .int .i64 2] U fun e w' => e = .returned (.int .u64 (ns : Nat)) ∧ w' = U from by have h := RG.out U hU 29 2 (by decide) (by have := H31.out; omega); rw [HNS.out] at h; exact h)
  clear h31 hnb hns hD
  have cD : ¬ (n : Int) < (D : Int) + 4 := by omega
  have cD2 : (D : Int) + 4 < (n : Int) := by omega
  clear hs
  obtain ⟨W1, hW1⟩ : ∃ U, w.alloc (.cells #[.int .i64 0, .int .i64 0, .slice none 0 0, .slice none 0 0, .int .u64 0, .int .u64 0] 27) = U := ⟨_, rfl⟩
  obtain ⟨R1, hR1⟩ : ∃ R, w.heap.size = R := ⟨_, rfl⟩
  have HR1 := hid hR1
  have BA := hid (show Below w.heap.size w W1 from by rw [← hW1]; exact ball _ _)
  have Q0 := hid (show W1.heap[R1]? = some (.cells #[.int .i64 0, .int .i64 0, .slice none 0 0, .slice none 0 0, .int .u64 0, .int .u64 0] 27 (0, 0)) from by rw [← hW1, ← hR1]; exact World.alloc_heap_new _ _)
  go_enter Tryd.func11, Tryd.ntmps11
  go_upto_region 1 with fail
  (try rw [hW1, hR1])
  clear hW1 hR1
  go_upto_region 2 with fail
  go_loopw [5] (fun iv wr => ∃ i : Nat, i ≤ 8 ∧ iv = .int .i64 i ∧ Hid (Below W1.heap.size W1 wr)) (fun iv _ => 8 + 1 - (intOf iv).toNat)
  case atStart => exact ⟨0, Nat.zero_le _, rfl, Below.refl _ _⟩
  case round =>
    obtain ⟨i, hiq, rfl, BW⟩ := hrel
    by_cases c : i < 8
    · have HI := hid c
      have i8 : i < 8 := by exact HI.out
      have ixs : i < xs.length := by rw [HL.out]; have := HI.out; have := H8.out; omega
      obtain ⟨m, hm⟩ : ∃ m, xs[i] = m := ⟨_, rfl⟩
      obtain ⟨m2, hm2⟩ : ∃ m2, mag[i]'i8 = m2 := ⟨_, rfl⟩
      have BWw := hid (btr BA.out BW.out)
      have cb : wr.cell? ⟨b, o + i, none⟩ = some (.int .u8 ((m : Nat) : Int)) := by
        rw [← hm]
        exact (BWw.out.cell (p := ⟨b, o + i, none⟩) (World.block_lt_of_cell? w _ (HB.out i ixs))).trans (HB.out i ixs)
      have IX := hid (fun w' => show (Instr.index 9 (.string ⟨#[66, 82, 83, 66, 79, 79, 75, 49]⟩) (.int .i64 ((i : Nat) : Int))).run Tryd.prog w' = .ok (.int .u8 ((m2 : Nat) : Int)) w' from by
        rw [run_index_string w' 9 _ .i64 _ Tryd.underlying9, dif_pos ⟨by omega, by show ((i : Nat) : Int) < 8; omega⟩]
        rcases below8 i8 with rfl | rfl | rfl | rfl | rfl | rfl | rfl | rfl <;> (rw [← hm2]; rfl))
      have i0' : (0 : Int) ≤ (i : Int) := by omega
      have i1 : (i : Int) < 8 := by omega
      have i2 : (i : Int) < (n : Int) := by have := HI.out; have := H8.out; omega
      have i3 : ((i : Int) == (n : Int)) = false := by simp only [beq_eq_false_iff_ne, ne_eq, Int.ofNat_inj]; have := HI.out; have := H8.out; omega
      have wi : IntKind.i64.wrap ((i : Int) + 1) = ((i + 1 : Nat) : Int) := by rw [IntKind.wrap_i64]; omega
      have EQ := hid (show mgs xs i ↔ m = m2 from by unfold mgs; rw [List.getElem?_eq_getElem ixs, List.getElem?_eq_getElem i8, hm, hm2]; exact Option.some_inj)
      go_upto_region 6 with fail
      have ix := IX.out
      go_big_quiet (fail)
      have BW2 := hid (btr BW.out (bdrew _ nq))
      have HLT := hid (show i < 8 from by omega)
      rw [show ((m : Int) != (m2 : Int)) = false from by have := EQ.out.1 (HM.out i HLT.out); simp [this]]
      go_wp2
      go_roundw
      case rel => exact ⟨i + 1, HLT.out, by go_num, BW2⟩
      case measure => have := HLT.out; simp [intOf]; omega
    · obtain rfl : i = 8 := by omega
      clear c hiq
      have Q1 := hid (row_on Q0.out BW.out)
      have BV := hid (btr BA.out BW.out)
      clear Q0 BA BW
      go_upto_region 10 with fail
      go_upto_region 11 with (first | (go_at_call 27; with_reducible refine (TB.out _ BV.out).mono ?_; rintro e _ ⟨rfl, he⟩; have he := he.symm; subst he) | (go_at_call 27; with_reducible refine (TS.out _ BV.out).mono ?_; rintro e _ ⟨rfl, he⟩; have he := he.symm; subst he))
      go_upto_region 12 with fail
      obtain ⟨x0, x1, x2, x3, x4, x5⟩ := row6 Q1.out
      have g0 := row_frz Q1.out 0
      have g1 := row_frz Q1.out 1
      have g2 := row_frz Q1.out 2
      have g3 := row_frz Q1.out 3
      have g4 := row_frz Q1.out 4
      have g5 := row_frz Q1.out 5
      obtain ⟨Y, hY⟩ : ∃ Y, (((((((wr).setCell ⟨R1, 0, none⟩ (.int .i64 0)).setCell ⟨R1, 1, none⟩ (.int .i64 0)).setCell ⟨R1, 2, none⟩ (.slice none 0 0)).setCell ⟨R1, 3, none⟩ (.slice none 0 0)).setCell ⟨R1, 4, none⟩ (.int .u64 0)).setCell ⟨R1, 5, none⟩ (.int .u64 0)) = Y := ⟨_, rfl⟩
      have KY := hid (show Kp (fun b => b = R1) (wr) Y from by rw [← hY]; exact chain6_kp _ _ _ _ _ _ _ _)
      have QY := hid (show Y.heap[R1]? = some (.cells #[.int .i64 0, .int .i64 0, .slice none 0 0, .slice none 0 0, .int .u64 0, .int .u64 0] 27 (0, 0)) from by rw [← hY]; exact chain6 _ _ _ _ _ _ Q1.out)
      go_wp2
      (try rw [hY])
      exact bodyPost_ret (res3 _ 2 3 4 Tryd.results11 _ _ R1 #[.int .i64 0, .int .i64 0, .slice none 0 0, .slice none 0 0, .int .u64 0, .int .u64 0] _ _ (by rfl) (by rfl) (by rfl) QY.out infoB) rfl ⟨rfl, (BV.out.trans (KY.out.below BV.out.size (fun q hq e => by have := HR1.out; omega)))⟩
theorem rdec_sum (xs : List Nat) (b o cap n : Nat) (w : World) (hx : Oct xs) (hB : Bs w b o xs) (hl : xs.length = n) (hn : n < 9223372036854775000) (h8 : 8 ≤ n) (hm : ∀ j, j < 8 → mgs xs j) (nb ns D : Nat) (h31 : 31 ≤ n) (hnb : nat' xs 27 2 = nb) (hns : nat' xs 29 2 = ns) (hD : 31 + 29 * (nb + ns) = D) (hs : n = D + 4) (hc : n ≤ cap) (hne : nat' xs D 4 ≠ crc (xs.take D)) :
    Calls Tryd.prog 11 #[.slice (some ⟨b, o, none⟩) n cap] w fun e w' => e = .returned (.tuple #[.agg zb, .int .i64 D, .int .i64 21]) ∧ Below w.heap.size w w' := by
  have HX := hid hx
  have HB := hid hB
  have HL := hid hl
  have HM := hid hm
  have HN := hid hn
  have H8 := hid h8
  clear hB hl hm hn h8 hx
  have c31 : ¬ (n : Int) < 31 := by omega
  have H31 := hid h31
  have LB := hid (show nb < 65536 from by rw [← hnb]; exact nat_lt HX.out 27 2)
  have LS := hid (show ns < 65536 from by rw [← hns]; exact nat_lt HX.out 29 2)
  have HD := hid hD
  have HNB := hid hnb
  have HNS := hid hns
  have wn1 : IntKind.i64.wrap ((nb : Nat) : Int) = ((nb : Nat) : Int) := by have := LB.out; rw [IntKind.wrap_i64]; omega
  have wn2 : IntKind.i64.wrap ((ns : Nat) : Int) = ((ns : Nat) : Int) := by have := LS.out; rw [IntKind.wrap_i64]; omega
  have wa : IntKind.i64.wrap ((nb : Int) + (ns : Int)) = (nb : Int) + (ns : Int) := by have := LB.out; have := LS.out; rw [IntKind.wrap_i64]; omega
  have wb : IntKind.i64.wrap (29 * ((nb : Int) + (ns : Int))) = 29 * ((nb : Int) + (ns : Int)) := by have := LB.out; have := LS.out; rw [IntKind.wrap_i64]; omega
  have wc : IntKind.i64.wrap (31 + 29 * ((nb : Int) + (ns : Int))) = (D : Int) := by have := LB.out; have := LS.out; rw [IntKind.wrap_i64]; omega
  have wD : IntKind.i64.wrap ((D : Int) + 4) = (D : Int) + 4 := by have := LB.out; have := LS.out; rw [IntKind.wrap_i64]; omega
  have RG := hid (fun (U : World) (hU : Below w.heap.size w U) (p q : Nat) (hq : q ≤ 8) (hp : p + q ≤ n) => show Calls Tryd.prog 27 #[.slice (some ⟨b, o, none⟩) n cap, .int .i64 p, .int .i64 q] U fun e w' => e = .returned (.int .u64 (nat' xs p q : Nat)) ∧ w' = U from
    rget_any xs ((xs.drop p).take q) b o cap n p q U (oct_take (oct_drop HX.out p) q) (fun i hi => (hU.cell (p := ⟨b, o + i, none⟩) (World.block_lt_of_cell? w _ (HB.out i hi))).trans (HB.out i hi)) HL.out HN.out rfl (by rw [List.length_take, List.length_drop, HL.out]; omega) hq)
  have TB := hid (fun (U : World) (hU : Below w.heap.size w U) => show Calls Tryd.prog 27 #[.slice (some ⟨b, o, none⟩) n cap, .int .i64 27, .int .i64 2] U fun e w' => e = .returned (.int .u64 (nb : Nat)) ∧ w' = U from by have h := RG.out U hU 27 2 (by decide) (by have := H31.out; omega); rw [HNB.out] at h; exact h)
  have TS := hid (fun (U : World) (hU : Below w.heap.size w U) => show Calls Tryd.prog 27 #[.slice (some ⟨b, o, none⟩) n cap, .int .i64 29, .int .i64 2] U fun e w' => e = .returned (.int .u64 (ns : Nat)) ∧ w' = U from by have h := RG.out U hU 29 2 (by decide) (by have := H31.out; omega); rw [HNS.out] at h; exact h)
  clear h31 hnb hns hD
  have HS := hid hs
  have cD : ¬ (n : Int) < (D : Int) + 4 := by omega
  have cD2 : ¬ (D : Int) + 4 < (n : Int) := by omega
  have i1 : (D : Int) ≤ (n : Int) := by omega
  have i2 : (D : Int) ≤ (cap : Int) := by omega
  have i0 : (0 : Int) ≤ (D : Int) := by omega
  have i10 : (10 : Int) < (n : Int) := by have := H31.out; omega
  clear hs hc
  have TD := hid (fun (U : World) (hU : Below w.heap.size w U) => show Calls Tryd.prog 27 #[.slice (some ⟨b, o, none⟩) n cap, .int .i64 D, .int .i64 4] U fun e w' => e = .returned (.int .u64 (nat' xs D 4 : Nat)) ∧ w' = U from RG.out U hU D 4 (by decide) (by have := HS.out; omega))
  have SM := hid (fun (U : World) (hU : Below w.heap.size w U) => show Calls Tryd.prog 21 #[.slice (some ⟨b, o, none⟩) D cap] U fun e w' => e = .returned (.int .u32 (crc (xs.take D) : Nat)) ∧ w' = U from by
    have h := rsum_some (xs.take D) b o cap U (by rw [List.length_take]; have := HS.out; have := HN.out; have := HL.out; omega) (oct_take HX.out D) (bs_take (fun i hi => (hU.cell (p := ⟨b, o + i, none⟩) (World.block_lt_of_cell? w _ (HB.out i hi))).trans (HB.out i hi)) D)
    rw [List.length_take, HL.out, Nat.min_eq_left (by have := HS.out; omega)] at h
    exact h)
  have Y10 := hid (show ∀ U, Below w.heap.size w U → U.cell? ⟨b, o + 10, none⟩ = some (.int .u8 ((nat' xs 10 1 : Nat) : Int)) from fun U hU => by
    rw [nat_one (by rw [HL.out]; have := H31.out; omega)]
    have h0 := HB.out 10 (by rw [HL.out]; have := H31.out; omega)
    exact (hU.cell (p := ⟨b, o + 10, none⟩) (World.block_lt_of_cell? w _ h0)).trans h0)
  have T8 := hid (fun (U : World) (hU : Below w.heap.size w U) => show Calls Tryd.prog 27 #[.slice (some ⟨b, o, none⟩) n cap, .int .i64 8, .int .i64 2] U fun e w' => e = .returned (.int .u64 (nat' xs 8 2 : Nat)) ∧ Hid (Below U.heap.size U w') from (RG.out U hU 8 2 (by decide) (by have := H31.out; omega)).mono (fun e w' h => ⟨h.1, by rw [h.2]; exact Below.refl _ _⟩))
  have T11 := hid (fun (U : World) (hU : Below w.heap.size w U) => show Calls Tryd.prog 27 #[.slice (some ⟨b, o, none⟩) n cap, .int .i64 11, .int .i64 8] U fun e w' => e = .returned (.int .u64 (nat' xs 11 8 : Nat)) ∧ Hid (Below U.heap.size U w') from (RG.out U hU 11 8 (by decide) (by have := H31.out; omega)).mono (fun e w' h => ⟨h.1, by rw [h.2]; exact Below.refl _ _⟩))
  have T19 := hid (fun (U : World) (hU : Below w.heap.size w U) => show Calls Tryd.prog 27 #[.slice (some ⟨b, o, none⟩) n cap, .int .i64 19, .int .i64 8] U fun e w' => e = .returned (.int .u64 (nat' xs 19 8 : Nat)) ∧ Hid (Below U.heap.size U w') from (RG.out U hU 19 8 (by decide) (by have := H31.out; omega)).mono (fun e w' h => ⟨h.1, by rw [h.2]; exact Below.refl _ _⟩))
  have LC := crc_lt (xs.take D)
  have L8 := nat_lt HX.out 8 2
  have L10 := nat_lt HX.out 10 1
  obtain ⟨v0, hv0⟩ : ∃ z, nat' xs D 4 = z := ⟨_, rfl⟩
  obtain ⟨v1, hv1⟩ : ∃ z, crc (xs.take D) = z := ⟨_, rfl⟩
  obtain ⟨cv, hcv⟩ : ∃ z, nat' xs 8 2 = z := ⟨_, rfl⟩
  obtain ⟨mv, hmv⟩ : ∃ z, nat' xs 10 1 = z := ⟨_, rfl⟩
  obtain ⟨hv, hhv⟩ : ∃ z, nat' xs 11 8 = z := ⟨_, rfl⟩
  obtain ⟨sv, hsv⟩ : ∃ z, nat' xs 19 8 = z := ⟨_, rfl⟩
  rw [hv0] at TD
  rw [hv1] at SM LC
  rw [hcv] at T8 L8
  rw [hmv] at Y10 L10
  rw [hhv] at T11
  rw [hsv] at T19
  have HV0 := hid hv0
  have HV1 := hid hv1
  have HCV := hid hcv
  have HMV := hid hmv
  have HHV := hid hhv
  have HSV := hid hsv
  have cw : IntKind.u64.wrap ((v1 : Nat) : Int) = ((v1 : Nat) : Int) := by rw [IntKind.wrap_u64]; omega
  have cc : IntKind.i64.wrap ((cv : Nat) : Int) = ((cv : Nat) : Int) := by rw [IntKind.wrap_i64]; omega
  have cm : IntKind.i64.wrap ((mv : Nat) : Int) = ((mv : Nat) : Int) := by rw [IntKind.wrap_i64]; omega
  clear LC L8 L10 hv0 hv1 hcv hmv hhv hsv
  rw [HV0.out, HV1.out] at hne
  have NE := hid hne
  clear hne
  obtain ⟨W1, hW1⟩ : ∃ U, w.alloc (.cells #[.int .i64 0, .int .i64 0, .slice none 0 0, .slice none 0 0, .int .u64 0, .int .u64 0] 27) = U := ⟨_, rfl⟩
  obtain ⟨R1, hR1⟩ : ∃ R, w.heap.size = R := ⟨_, rfl⟩
  have HR1 := hid hR1
  have BA := hid (show Below w.heap.size w W1 from by rw [← hW1]; exact ball _ _)
  have Q0 := hid (show W1.heap[R1]? = some (.cells #[.int .i64 0, .int .i64 0, .slice none 0 0, .slice none 0 0, .int .u64 0, .int .u64 0] 27 (0, 0)) from by rw [← hW1, ← hR1]; exact World.alloc_heap_new _ _)
  go_enter Tryd.func11, Tryd.ntmps11
  go_upto_region 1 with fail
  (try rw [hW1, hR1])
  clear hW1 hR1
  go_upto_region 2 with fail
  go_loopw [5] (fun iv wr => ∃ i : Nat, i ≤ 8 ∧ iv = .int .i64 i ∧ Hid (Below W1.heap.size W1 wr)) (fun iv _ => 8 + 1 - (intOf iv).toNat)
  case atStart => exact ⟨0, Nat.zero_le _, rfl, Below.refl _ _⟩
  case round =>
    obtain ⟨i, hiq, rfl, BW⟩ := hrel
    by_cases c : i < 8
    · have HI := hid c
      have i8 : i < 8 := by exact HI.out
      have ixs : i < xs.length := by rw [HL.out]; have := HI.out; have := H8.out; omega
      obtain ⟨m, hm⟩ : ∃ m, xs[i] = m := ⟨_, rfl⟩
      obtain ⟨m2, hm2⟩ : ∃ m2, mag[i]'i8 = m2 := ⟨_, rfl⟩
      have BWw := hid (btr BA.out BW.out)
      have cb : wr.cell? ⟨b, o + i, none⟩ = some (.int .u8 ((m : Nat) : Int)) := by
        rw [← hm]
        exact (BWw.out.cell (p := ⟨b, o + i, none⟩) (World.block_lt_of_cell? w _ (HB.out i ixs))).trans (HB.out i ixs)
      have IX := hid (fun w' => show (Instr.index 9 (.string ⟨#[66, 82, 83, 66, 79, 79, 75, 49]⟩) (.int .i64 ((i : Nat) : Int))).run Tryd.prog w' = .ok (.int .u8 ((m2 : Nat) : Int)) w' from by
        rw [run_index_string w' 9 _ .i64 _ Tryd.underlying9, dif_pos ⟨by omega, by show ((i : Nat) : Int) < 8; omega⟩]
        rcases below8 i8 with rfl | rfl | rfl | rfl | rfl | rfl | rfl | rfl <;> (rw [← hm2]; rfl))
      have i0' : (0 : Int) ≤ (i : Int) := by omega
      have i1 : (i : Int) < 8 := by omega
      have i2 : (i : Int) < (n : Int) := by have := HI.out; have := H8.out; omega
      have i3 : ((i : Int) == (n : Int)) = false := by simp only [beq_eq_false_iff_ne, ne_eq, Int.ofNat_inj]; have := HI.out; have := H8.out; omega
      have wi : IntKind.i64.wrap ((i : Int) + 1) = ((i + 1 : Nat) : Int) := by rw [IntKind.wrap_i64]; omega
      have EQ := hid (show mgs xs i ↔ m = m2 from by unfold mgs; rw [List.getElem?_eq_getElem ixs, List.getElem?_eq_getElem i8, hm, hm2]; exact Option.some_inj)
      go_upto_region 6 with fail
      have ix := IX.out
      go_big_quiet (fail)
      have BW2 := hid (btr BW.out (bdrew _ nq))
      have HLT := hid (show i < 8 from by omega)
      rw [show ((m : Int) != (m2 : Int)) = false from by have := EQ.out.1 (HM.out i HLT.out); simp [this]]
      go_wp2
      go_roundw
      case rel => exact ⟨i + 1, HLT.out, by go_num, BW2⟩
      case measure => have := HLT.out; simp [intOf]; omega
    · obtain rfl : i = 8 := by omega
      clear c hiq
      have Q1 := hid (row_on Q0.out BW.out)
      have BV := hid (btr BA.out BW.out)
      clear Q0 BA BW
      go_upto_region 10 with fail
      go_upto_region 11 with (first | (go_at_call 27; with_reducible refine (TB.out _ BV.out).mono ?_; rintro e _ ⟨rfl, he⟩; have he := he.symm; subst he) | (go_at_call 27; with_reducible refine (TS.out _ BV.out).mono ?_; rintro e _ ⟨rfl, he⟩; have he := he.symm; subst he))
      go_upto_region 12 with fail
      go_upto_region 16 with fail
      obtain ⟨V51, hV51⟩ : ∃ U, wr.drew = U := ⟨_, rfl⟩
      have DV51 := hid (show Below wr.heap.size wr V51 from by rw [← hV51]; exact bdrew1 _)
      have BV51 := hid (btr (BV.out) DV51.out)
      refine wp_region_held_drew (S := fun U => U.cell? ⟨b, o + 10, none⟩ = some (.int .u8 ((mv : Nat) : Int))) (by kernel_rfl) ?_ (fun hHeld => ?_)
      · (try dsimp only); rw [hV51]; exact Y10.out _ BV51.out
      rw [hV51] at hHeld ⊢
      clear hV51
      refine' wpAnyH_take (i := 0) (oi := _) (v := _) rfl (by kernel_rfl) (by kernel_rfl) (by kernel_rfl) (fun _ _ _ h => h) (Or.inl ⟨by kernel_rfl, ?_⟩) (by assumption) ?_
      rotate_left
      · (intro w hSw; (try dsimp only at hSw); go_simp; try (with_reducible rfl))
      try simp only [List.getElem_toArray, List.getElem_cons_succ, List.getElem_cons_zero, Act.put, List.setIfInBounds_toArray, List.set_cons_zero, List.set_cons_succ]
      refine' wpAnyH_take (i := 1) (oi := _) (v := _) rfl (by kernel_rfl) (by kernel_rfl) (by kernel_rfl) (fun _ _ _ h => h) (Or.inl ⟨by kernel_rfl, ?_⟩) (by assumption) ?_
      rotate_left
      · (intro w hSw; (try dsimp only at hSw); go_simp; try (with_reducible rfl))
      try simp only [List.getElem_toArray, List.getElem_cons_succ, List.getElem_cons_zero, Act.put, List.setIfInBounds_toArray, List.set_cons_zero, List.set_cons_succ]
      refine' wpAnyH_take (i := 3) (oi := _) (v := _) rfl (by kernel_rfl) (by kernel_rfl) (by kernel_rfl) (fun _ _ _ h => h) (Or.inl ⟨by kernel_rfl, ?_⟩) (by assumption) ?_
      rotate_left
      · (intro w hSw; (try dsimp only at hSw); go_simp; try (with_reducible rfl))
      try simp only [List.getElem_toArray, List.getElem_cons_succ, List.getElem_cons_zero, Act.put, List.setIfInBounds_toArray, List.set_cons_zero, List.set_cons_succ]
      refine' wpAnyH_take (i := 4) (oi := _) (v := _) rfl (by kernel_rfl) (by kernel_rfl) (by kernel_rfl) (fun _ _ _ h => h) (Or.inl ⟨by kernel_rfl, ?_⟩) (by assumption) ?_
      rotate_left
      · (intro w hSw; (try dsimp only at hSw); go_simp; try (with_reducible rfl))
      try simp only [List.getElem_toArray, List.getElem_cons_succ, List.getElem_cons_zero, Act.put, List.setIfInBounds_toArray, List.set_cons_zero, List.set_cons_succ]
      refine' wpAnyH_take (i := 5) (oi := _) (v := _) rfl (by kernel_rfl) (by kernel_rfl) (by kernel_rfl) (fun _ _ _ h => h) (Or.inl ⟨by kernel_rfl, ?_⟩) (by assumption) ?_
      rotate_left
      · (intro w hSw; (try dsimp only at hSw); go_simp; try (with_reducible rfl))
      try simp only [List.getElem_toArray, List.getElem_cons_succ, List.getElem_cons_zero, Act.put, List.setIfInBounds_toArray, List.set_cons_zero, List.set_cons_succ]
      refine wpAnyH_ready (rs := [2]) (by kernel_rfl) (by simp) ?_
      refine (AllReadyH.cons (o := _) rfl (fun K hK => ?_) AllReadyH.nil)
      go_simp
      go_at_call 27
      with_reducible refine (TD.out _ BV51.out).mono ?_
      rintro e _ ⟨rfl, he⟩
      have he := he.symm
      subst he
      (try go_wp2_with fail)
      refine hK.out _ _ ?_ (fun hHeld => ?_)
      · (try dsimp only); exact Y10.out _ BV51.out
      clear hK K
      try simp only [List.getElem_toArray, List.getElem_cons_succ, List.getElem_cons_zero, Act.put, List.setIfInBounds_toArray, List.set_cons_zero, List.set_cons_succ]
      refine wpAnyH_ready (rs := [6]) (by kernel_rfl) (by simp) ?_
      refine (AllReadyH.cons (o := _) rfl (fun K hK => ?_) AllReadyH.nil)
      go_simp
      go_at_call 21
      with_reducible refine (SM.out _ BV51.out).mono ?_
      rintro e _ ⟨rfl, he⟩
      have he := he.symm
      subst he
      (try go_wp2_with fail)
      refine hK.out _ _ ?_ (fun hHeld => ?_)
      · (try dsimp only); exact Y10.out _ BV51.out
      clear hK K
      try simp only [List.getElem_toArray, List.getElem_cons_succ, List.getElem_cons_zero, Act.put, List.setIfInBounds_toArray, List.set_cons_zero, List.set_cons_succ]
      refine' wpAnyH_take (i := 7) (oi := _) (v := _) rfl (by kernel_rfl) (by kernel_rfl) (by kernel_rfl) (fun _ _ _ h => h) (Or.inl ⟨by kernel_rfl, ?_⟩) (by assumption) ?_
      rotate_left
      · (intro w hSw; (try dsimp only at hSw); go_simp; try (with_reducible rfl))
      try simp only [List.getElem_toArray, List.getElem_cons_succ, List.getElem_cons_zero, Act.put, List.setIfInBounds_toArray, List.set_cons_zero, List.set_cons_succ]
      refine' wpAnyH_take (i := 8) (oi := _) (v := _) rfl (by kernel_rfl) (by kernel_rfl) (by kernel_rfl) (fun _ _ _ h => h) (Or.inl ⟨by kernel_rfl, ?_⟩) (by assumption) ?_
      rotate_left
      · (intro w hSw; (try dsimp only at hSw); go_simp; try (with_reducible rfl))
      try simp only [List.getElem_toArray, List.getElem_cons_succ, List.getElem_cons_zero, Act.put, List.setIfInBounds_toArray, List.set_cons_zero, List.set_cons_succ]
      refine wpAnyH_done (by kernel_rfl) ?_ _
      rw [show ((v0 : Int) != (v1 : Int)) = true from by simp only [bne_iff_ne, ne_eq, Int.ofNat_inj]; exact NE.out]
      have Q2 := hid (row_on Q1.out DV51.out)
      obtain ⟨x0, x1, x2, x3, x4, x5⟩ := row6 Q2.out
      have g0 := row_frz Q2.out 0
      have g1 := row_frz Q2.out 1
      have g2 := row_frz Q2.out 2
      have g3 := row_frz Q2.out 3
      have g4 := row_frz Q2.out 4
      have g5 := row_frz Q2.out 5
      obtain ⟨Y, hY⟩ : ∃ Y, (((((((V51).setCell ⟨R1, 0, none⟩ (.int .i64 0)).setCell ⟨R1, 1, none⟩ (.int .i64 0)).setCell ⟨R1, 2, none⟩ (.slice none 0 0)).setCell ⟨R1, 3, none⟩ (.slice none 0 0)).setCell ⟨R1, 4, none⟩ (.int .u64 0)).setCell ⟨R1, 5, none⟩ (.int .u64 0)) = Y := ⟨_, rfl⟩
      have KY := hid (show Kp (fun b => b = R1) (V51) Y from by rw [← hY]; exact chain6_kp _ _ _ _ _ _ _ _)
      have QY := hid (show Y.heap[R1]? = some (.cells #[.int .i64 0, .int .i64 0, .slice none 0 0, .slice none 0 0, .int .u64 0, .int .u64 0] 27 (0, 0)) from by rw [← hY]; exact chain6 _ _ _ _ _ _ Q2.out)
      go_wp2
      (try rw [hY])
      exact bodyPost_ret (res3 _ 2 3 4 Tryd.results11 _ _ R1 #[.int .i64 0, .int .i64 0, .slice none 0 0, .slice none 0 0, .int .u64 0, .int .u64 0] _ _ (by rfl) (by rfl) (by rfl) QY.out infoB) rfl ⟨rfl, (BV51.out.trans (KY.out.below BV51.out.size (fun q hq e => by have := HR1.out; omega)))⟩
end Go.Proofs.YtjpkodllemoniaaDoor.Wi
