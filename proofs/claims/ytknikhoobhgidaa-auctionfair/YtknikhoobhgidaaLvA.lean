/-
  The first example.
-/
import Derived.Test.YtknikhoobhgidaaAuX
namespace Go.Proofs.Ytknikhoobhgidaa
open Go.RowKit Go.Deep Go.Shelf
set_option linter.unusedVariables false
set_option linter.unusedSimpArgs false
set_option maxHeartbeats 4000000
set_option maxRecDepth 100000
theorem ptr_nil (B : Nat) (U : World) : (binOp .eql 25 (.pointer (some ⟨B, 0, none⟩)) (.pointer none)).run Try.prog U = .ok (.bool false) U := by first | exact run_eql_ptr_nil U 25 _ _ Try.underlying25 | kernel_rfl | rfl | simp [binOp, Op.equal, Op.equalIn, run_underlying Try.underlying25]
theorem wpList_build' {P : Program} {ops : Array Oper} {rest : List Oper} {o : Oper} {a : Act} {w : World} {Q : Exit → Act → World → Prop} (hg : o.guard = none) (t : TypeId) (parts : Array (Nat × Operand)) (ho : o.op = .build t parts)
    (L : List (Nat × Value)) (hL : (parts.map fun (i, x) => (i, a.eval x)).toList = L) (cells : Array Value) (hf : P.built t L = some cells) (h : wpList P ops Q rest (a.put o.dst (.agg cells)) w) : wpList P ops Q (o :: rest) a w :=
  wpList_build hg t parts ho (by rw [hL, hf]; rfl) (by rw [hL, hf]; exact h)
theorem built4 : Try.prog.built 59 [(0, .agg #[.int .u64 1, .int .u32 0, .int .i64 1, .int .i64 1, .int .i64 102, .int .u64 10]), (1, .agg #[.int .u64 2, .int .u32 0, .int .i64 1, .int .i64 1, .int .i64 101, .int .u64 10]), (2, .agg #[.int .u64 3, .int .u32 0, .int .i64 2, .int .i64 1, .int .i64 99, .int .u64 5]), (3, .agg #[.int .u64 4, .int .u32 0, .int .i64 2, .int .i64 1, .int .i64 101, .int .u64 10])] = some #[.int .u64 1, .int .u32 0, .int .i64 1, .int .i64 1, .int .i64 102, .int .u64 10, .int .u64 2, .int .u32 0, .int .i64 1, .int .i64 1, .int .i64 101, .int .u64 10, .int .u64 3, .int .u32 0, .int .i64 2, .int .i64 1, .int .i64 99, .int .u64 5, .int .u64 4, .int .u32 0, .int .i64 2, .int .i64 1, .int .i64 101, .int .u64 10] := by kernel_rfl
theorem info4 : (Try.prog.info? 59).map (·.size) = some (#[.int .u64 1, .int .u32 0, .int .i64 1, .int .i64 1, .int .i64 102, .int .u64 10, .int .u64 2, .int .u32 0, .int .i64 1, .int .i64 1, .int .i64 101, .int .u64 10, .int .u64 3, .int .u32 0, .int .i64 2, .int .i64 1, .int .i64 99, .int .u64 5, .int .u64 4, .int .u32 0, .int .i64 2, .int .i64 1, .int .i64 101, .int .u64 10] : Array Value).size := by kernel_rfl
theorem one4 : (#[.int .u64 1, .int .u32 0, .int .i64 1, .int .i64 1, .int .i64 102, .int .u64 10, .int .u64 2, .int .u32 0, .int .i64 1, .int .i64 1, .int .i64 101, .int .u64 10, .int .u64 3, .int .u32 0, .int .i64 2, .int .i64 1, .int .i64 99, .int .u64 5, .int .u64 4, .int .u32 0, .int .i64 2, .int .i64 1, .int .i64 101, .int .u64 10] : Array Value).all (·.oneCell') = true := by kernel_rfl
/-- so many are entered. -/
def Lv (w U : World) (A B i : Nat) : Prop := ∃ p1 c1 p2 c2, Cl U B 100 9 p1 c1 (exb i) p2 c2 (exs i) ∧ (∀ g, OfP p1 g ∨ OfP p2 g → w.heap.size ≤ g) ∧ U.heap[A]? = some (.cells #[.int .u64 1, .int .u32 0, .int .i64 1, .int .i64 1, .int .i64 102, .int .u64 10, .int .u64 2, .int .u32 0, .int .i64 1, .int .i64 1, .int .i64 101, .int .u64 10, .int .u64 3, .int .u32 0, .int .i64 2, .int .i64 1, .int .i64 99, .int .u64 5, .int .u64 4, .int .u32 0, .int .i64 2, .int .i64 1, .int .i64 101, .int .u64 10] 59 (0, 0)) ∧ Below w.heap.size w U ∧ w.heap.size ≤ B
theorem arr_its : (#[.int .u64 1, .int .u32 0, .int .i64 1, .int .i64 1, .int .i64 102, .int .u64 10, .int .u64 2, .int .u32 0, .int .i64 1, .int .i64 1, .int .i64 101, .int .u64 10, .int .u64 3, .int .u32 0, .int .i64 2, .int .i64 1, .int .i64 99, .int .u64 5, .int .u64 4, .int .u32 0, .int .i64 2, .int .i64 1, .int .i64 101, .int .u64 10] : Array Value) = (its exi).toArray := by rfl
theorem arr_cells {U : World} {A : Nat} (h : U.heap[A]? = some (.cells #[.int .u64 1, .int .u32 0, .int .i64 1, .int .i64 1, .int .i64 102, .int .u64 10, .int .u64 2, .int .u32 0, .int .i64 1, .int .i64 1, .int .i64 101, .int .u64 10, .int .u64 3, .int .u32 0, .int .i64 2, .int .i64 1, .int .i64 99, .int .u64 5, .int .u64 4, .int .u32 0, .int .i64 2, .int .i64 1, .int .i64 101, .int .u64 10] 59 (0, 0))) {i : Nat} (hi : i < exi.length) : U.cell? ⟨A, i * 6, none⟩ = some (.int .u64 exi[i].id) ∧ U.cell? ⟨A, i * 6 + 1, none⟩ = some (.int .u32 exi[i].mb) ∧ U.cell? ⟨A, i * 6 + 2, none⟩ = some (.int .i64 exi[i].sd) ∧ U.cell? ⟨A, i * 6 + 3, none⟩ = some (.int .i64 exi[i].ty) ∧ U.cell? ⟨A, i * 6 + 4, none⟩ = some (.int .i64 exi[i].pr) ∧ U.cell? ⟨A, i * 6 + 5, none⟩ = some (.int .u64 exi[i].qt) := by
  have go : ∀ j, j < 6 → U.cell? ⟨A, i * 6 + j, none⟩ = (irow exi[i]).toList[j]? := fun j hj => by
    rw [row_cell h, ← its_get hi hj, arr_its]
    simp
  exact ⟨go 0 (by omega), go 1 (by omega), go 2 (by omega), go 3 (by omega), go 4 (by omega), go 5 (by omega)⟩
theorem eqQE (w : World) : (Op.equalIn 10000 30 (.agg #[.int .i64 101, .int .u64 15, .int .u64 5, .int .i64 1, .int .i64 1]) (.agg #[.int .i64 101, .int .u64 15, .int .u64 5, .int .i64 1, .int .i64 1])).run Try.prog w = .ok true w := by
  have := eqQ ⟨101, 15, 5, 1, 1⟩ ⟨101, 15, 5, 1, 1⟩ w
  simpa using this
theorem eqFE (w : World) : (Op.equalIn 10000 44 (.agg #[.int .u64 2, .int .u64 4, .int .i64 101, .int .u64 5]) (.agg #[.int .u64 2, .int .u64 4, .int .i64 101, .int .u64 5])).run Try.prog w = .ok true w := by
  have := eqFiR ⟨2, 4, 101, 5⟩ ⟨2, 4, 101, 5⟩ w
  simpa [frow] using this
theorem unc_ex (B : Nat) (p1 : Option Addr) (c1 : Nat) (p2 : Option Addr) (c2 : Nat) (w : World) (h : Cl w B 100 9 p1 c1 (exb 4) p2 c2 (exs 4)) :
    Calls Try.prog 14 #[.pointer (some ⟨B, 0, none⟩)] w fun e w' => ∃ pf cf, e = .returned (.tuple #[.slice pf 3 cf, .agg #[.int .i64 101, .int .u64 15, .int .u64 5, .int .i64 1, .int .i64 1], .bool true]) ∧ w'.ownsRow w.heap.size 44 4 (.slice pf 3 cf) 3 (frs [⟨1, 3, 101, 5⟩, ⟨1, 4, 101, 5⟩, ⟨2, 4, 101, 5⟩]) ∧ Cl w' B 100 9 p1 c1 [⟨2, 0, 1, 1, 101, 5⟩] p2 c2 [] ∧ Kp (fun g => g = B ∨ OfP p1 g ∨ OfP p2 g) w w' := by
  have h1 := uncross_some B 100 9 p1 c1 _ p2 c2 _ ⟨101, 15, 5, 1, 1⟩ w h ex_quo
  have e : trd 101 ((exb 4).length + (exs 4).length) 15 (exb 4) (exs 4) = _ := ex_trd
  dsimp only at h1
  rw [e] at h1
  exact h1
theorem fill2 {base : Nat} {w : World} {pf : Option Addr} {cf : Nat} (h : w.ownsRow base 44 4 (.slice pf 3 cf) 3 (frs [⟨1, 3, 101, 5⟩, ⟨1, 4, 101, 5⟩, ⟨2, 4, 101, 5⟩])) : ∃ g, pf = some ⟨g, 0, none⟩ ∧ w.cell? ⟨g, 8, none⟩ = some (.int .u64 2) ∧ w.cell? ⟨g, 9, none⟩ = some (.int .u64 4) ∧ w.cell? ⟨g, 10, none⟩ = some (.int .i64 101) ∧ w.cell? ⟨g, 11, none⟩ = some (.int .u64 5) := by
  obtain ⟨_, ⟨e, e2⟩ | ⟨g, c', cur, e, r1, r2, r3, r4, r5, r6⟩⟩ := h
  · omega
  · obtain ⟨rfl, _, rfl⟩ := Value.slice.inj e
    have go : ∀ j, j < 12 → w.cell? ⟨g, j, none⟩ = (frs [⟨1, 3, 101, 5⟩, ⟨1, 4, 101, 5⟩, ⟨2, 4, 101, 5⟩])[j]? := fun j hj => by
      have := congrArg (fun z => z[j]?) r6
      have hlt : j < 3 * 4 := hj
      simp only [List.getElem?_take, hlt, if_true, Array.getElem?_toList] at this
      rw [row_cell r2, this]
    exact ⟨g, rfl, go 8 (by omega), go 9 (by omega), go 10 (by omega), go 11 (by omega)⟩
theorem lives_any (w : World) : Calls Try.prog 9 #[] w fun e w' => e = .returned (.bool true) ∧ Below w.heap.size w w' := by
  have HC := hid (Cl.new (r := 100) (m := 9) w rfl)
  have C1 := hid ((new_ok 100 9 w rfl).mono (R' := fun e w' => e = .returned (.tuple #[.pointer (some ⟨w.heap.size, 0, none⟩), .int .i64 0]) ∧ Hid (w' = w.alloc (.cells #[.int .i64 100, .int .i64 9, .slice none 0 0, .slice none 0 0] 68))) (fun e w' h => ⟨h.1, hid h.2⟩))
  obtain ⟨B, hB⟩ : ∃ B, w.heap.size = B := ⟨_, rfl⟩
  rw [hB] at C1 HC
  have HB := hid hB
  clear hB
  have pq := ptr_nil B
  go_enter Try.func9, Try.ntmps9
  go_upto_region 4 with (go_at_call 18; with_reducible refine (C1.out).mono ?_; rintro e w1 ⟨rfl, HW1⟩)
  obtain ⟨A, hA⟩ : ∃ A, w1.heap.size = A := ⟨_, rfl⟩
  have HG := hid (show (w1.alloc (.cells #[.int .u64 0, .int .u32 0, .int .i64 0, .int .i64 0, .int .i64 0, .int .u64 0, .int .u64 0, .int .u32 0, .int .i64 0, .int .i64 0, .int .i64 0, .int .u64 0, .int .u64 0, .int .u32 0, .int .i64 0, .int .i64 0, .int .i64 0, .int .u64 0, .int .u64 0, .int .u32 0, .int .i64 0, .int .i64 0, .int .i64 0, .int .u64 0] 59)).heap[A]? = some (.cells #[.int .u64 0, .int .u32 0, .int .i64 0, .int .i64 0, .int .i64 0, .int .u64 0, .int .u64 0, .int .u32 0, .int .i64 0, .int .i64 0, .int .i64 0, .int .u64 0, .int .u64 0, .int .u32 0, .int .i64 0, .int .i64 0, .int .i64 0, .int .u64 0, .int .u64 0, .int .u32 0, .int .i64 0, .int .i64 0, .int .i64 0, .int .u64 0] 59 (0, 0)) from by rw [← hA]; exact World.alloc_heap_new _ _)
  go_upto_region 5 with (first | (refine wpList_build' (by rfl) 59 #[(0, .tmp 19), (1, .tmp 20), (2, .tmp 21), (3, .tmp 22)] (by rfl) _ (by rfl) _ built4 ?_) | (refine wpList_store_row (by rfl) 59 (.tmp 3) (.tmp 23) (by rfl) A #[.int .u64 1, .int .u32 0, .int .i64 1, .int .i64 1, .int .i64 102, .int .u64 10, .int .u64 2, .int .u32 0, .int .i64 1, .int .i64 1, .int .i64 101, .int .u64 10, .int .u64 3, .int .u32 0, .int .i64 2, .int .i64 1, .int .i64 99, .int .u64 5, .int .u64 4, .int .u32 0, .int .i64 2, .int .i64 1, .int .i64 101, .int .u64 10] (by rfl) (by rfl) 59 #[.int .u64 0, .int .u32 0, .int .i64 0, .int .i64 0, .int .i64 0, .int .u64 0, .int .u64 0, .int .u32 0, .int .i64 0, .int .i64 0, .int .i64 0, .int .u64 0, .int .u64 0, .int .u32 0, .int .i64 0, .int .i64 0, .int .i64 0, .int .u64 0, .int .u64 0, .int .u32 0, .int .i64 0, .int .i64 0, .int .i64 0, .int .u64 0] HG.out info4 (by rfl) one4 ?_))
  obtain ⟨W, hW⟩ : ∃ W, (w1.alloc (.cells #[.int .u64 0, .int .u32 0, .int .i64 0, .int .i64 0, .int .i64 0, .int .u64 0, .int .u64 0, .int .u32 0, .int .i64 0, .int .i64 0, .int .i64 0, .int .u64 0, .int .u64 0, .int .u32 0, .int .i64 0, .int .i64 0, .int .i64 0, .int .u64 0, .int .u64 0, .int .u32 0, .int .i64 0, .int .i64 0, .int .i64 0, .int .u64 0] 59)).setRow A #[.int .u64 1, .int .u32 0, .int .i64 1, .int .i64 1, .int .i64 102, .int .u64 10, .int .u64 2, .int .u32 0, .int .i64 1, .int .i64 1, .int .i64 101, .int .u64 10, .int .u64 3, .int .u32 0, .int .i64 2, .int .i64 1, .int .i64 99, .int .u64 5, .int .u64 4, .int .u32 0, .int .i64 2, .int .i64 1, .int .i64 101, .int .u64 10] = W := ⟨_, rfl⟩
  have HA := hid (show W.heap[A]? = some (.cells #[.int .u64 1, .int .u32 0, .int .i64 1, .int .i64 1, .int .i64 102, .int .u64 10, .int .u64 2, .int .u32 0, .int .i64 1, .int .i64 1, .int .i64 101, .int .u64 10, .int .u64 3, .int .u32 0, .int .i64 2, .int .i64 1, .int .i64 99, .int .u64 5, .int .u64 4, .int .u32 0, .int .i64 2, .int .i64 1, .int .i64 101, .int .u64 10] 59 (0, 0)) from by rw [← hW]; exact setRow_heap _ _ _ _ 59 (0, 0) HG.out)
  have hc1 := HC.out
  rw [← HB.out] at hc1
  rw [← HW1.out, HB.out] at hc1
  have hbw : Below w1.heap.size w1 W := by rw [← hW]; exact setRow_below (ball _ _) (by omega)
  have hb1 : Below w.heap.size w w1 := by rw [HW1.out]; exact ball _ _
  have HLV := hid (show Lv w W A B 0 from ⟨none, 0, none, 0, hc1.on hbw, (fun g h => h.elim (fun h => by cases h) (fun h => by cases h)), HA.out, btr hb1 hbw, by have := HB.out; omega⟩)
  rw [hW]
  clear hW HG hc1 hbw hb1 HC C1 HW1 HA hA
  go_upto_region 6 with fail
  go_loopw [4] (fun iv wr => ∃ i : Nat, i ≤ 4 ∧ iv = .int .i64 i ∧ Hid (Lv w wr A B i)) (fun iv _ => 4 - (intOf iv).toNat)
  case atStart => exact ⟨0, by omega, rfl, HLV⟩
  case round =>
    obtain ⟨i, hin, rfl, HL⟩ := hrel
    clear HLV
    by_cases hlt : i < 4
    · have hi : i < exi.length := hlt
      obtain ⟨p1, c1, p2, c2, hc, hn, ha, hb, hB⟩ := HL.out
      obtain ⟨a0, a1, a2, a3, a4, a5⟩ := arr_cells ha hi
      obtain ⟨e1, e2, e3⟩ := ex_step i hi
      have CE := hid (enter_any B 100 9 p1 c1 (exb i) p2 c2 (exs i) exi[i] wr hc)
      rw [e1, e2, e3] at CE
      obtain ⟨z, hz⟩ : ∃ z, exi[i] = z := ⟨_, rfl⟩
      rw [hz] at a0 a1 a2 a3 a4 a5 CE
      have HP := hid (And.intro hc (And.intro hn (And.intro ha (And.intro hb hB))))
      have i0 : (0 : Int) ≤ (i : Int) := by omega
      have i1 : (i : Int) < 4 := by omega
      clear hz e1 e2 e3 hc hn ha hb hB HL
      go_wp2_with (go_at_call 19; with_reducible refine (CE.out).mono ?_; rintro e w2 ⟨rfl, q1, d1, q2, d2, h1, h2, h3⟩; have H1 := hid h1; have H2 := hid h2; have H3 := hid h3; clear h1 h2 h3)
      go_roundw
      case rel =>
        obtain ⟨hc, hn, ha, hb, hB⟩ := HP.out
        have hs := hb.size
        refine ⟨i + 1, by omega, by go_num, hid ⟨q1, d1, q2, d2, H1.out, ?_, ?_, ?_, hB⟩⟩
        · intro g hg
          rcases H2.out g hg with h | h
          · exact hn g h
          · omega
        · refine H3.out.row ha (fun e => ?_)
          rcases e with e | e | e
          · exact row_ne ha hc.row (by decide) e
          · obtain ⟨cu, hcu⟩ := hc.l1.ty e; exact row_ne ha hcu (by decide) rfl
          · obtain ⟨cu, hcu⟩ := hc.l2.ty e; exact row_ne ha hcu (by decide) rfl
        · refine hb.trans (H3.out.below hs (fun g hg e => ?_))
          rcases e with e | e
          · omega
          · have := hn g e; omega
      case measure => simp [intOf]; omega
    · obtain rfl : i = 4 := by omega
      obtain ⟨p1, c1, p2, c2, hc, hn, ha, hb, hB⟩ := HL.out
      have CU := hid (unc_ex B p1 c1 p2 c2 wr hc)
      have HP := hid (And.intro hn (And.intro hb hB))
      clear hc hn ha hb hB HL
      go_upto_region 11 with (go_at_call 14; with_reducible refine (CU.out).mono ?_; rintro e w2 ⟨pf, cf, rfl, h1, h2, h3⟩; have H1 := hid h1; have H2 := hid h2; have H3 := hid h3; clear h1 h2 h3)
      obtain ⟨X, hX⟩ : ∃ X, w2.alloc (.cells #[.int .i64 101, .int .u64 15, .int .u64 5, .int .i64 1, .int .i64 1] 30) = X := ⟨_, rfl⟩
      obtain ⟨q, hq⟩ : ∃ g, w2.heap.size = g := ⟨_, rfl⟩
      have BX := hid (show Below w2.heap.size w2 X from by rw [← hX]; exact ball _ _)
      have HQ := hid (show X.heap[q]? = some (.cells #[.int .i64 101, .int .u64 15, .int .u64 5, .int .i64 1, .int .i64 1] 30 (0, 0)) from by rw [← hX, ← hq]; exact World.alloc_heap_new _ _)
      rw [hX, hq]
      clear hX hq
      have IN := hid (interests1 B 100 9 p1 c1 [⟨2, 0, 1, 1, 101, 5⟩] p2 c2 [] X (H2.out.on BX.out))
      go_upto_region 12 with (go_at_call 13; with_reducible refine (IN.out).mono ?_; rintro e w3 ⟨pi, ci, rfl, h1, h2, h3⟩; have I1 := hid h1; have I2 := hid h2; clear h1 h2 h3)
      have CL := hid (len_any B 100 9 p1 c1 [⟨2, 0, 1, 1, 101, 5⟩] p2 c2 [] w3 ((H2.out.on BX.out).on I2.out))
      obtain ⟨f, ef, f0, f1, f2, f3⟩ := fill2 (own_on (own_on H1.out BX.out) I2.out)
      subst ef
      obtain ⟨g, eg, i0, i1, i2, i3, i4, i5⟩ := I1.out.cells (i := 0) (by decide)
      subst eg
      obtain ⟨z0, z1, z2, z3, z4⟩ := row5 (row_on HQ.out I2.out)
      simp only [Nat.zero_mul, Nat.zero_add, List.getElem_cons_zero] at i0 i1 i2 i3 i4 i5
      have qq := eqQE
      have qf := eqFE
      go_wp2_with (go_at_call 17; with_reducible refine (CL.out).mono ?_; rintro e w4 ⟨rfl, n, hn4⟩; have HN4 := hid hn4; clear hn4)
      go_ret
      refine ⟨rfl, ?_⟩
      obtain ⟨hn, hb, hB⟩ := HP.out
      rw [HN4.out]
      have hb2 : Below w.heap.size w w2 := hb.trans (H3.out.below hb.size (fun g hg e => by
        rcases e with e | e
        · omega
        · have := hn g e; omega))
      exact btr (btr (btr hb2 BX.out) I2.out) (bdrew _ _)
end Go.Proofs.Ytknikhoobhgidaa
