/-
  An interest is dropped.
-/
import Derived.Test.YtknikhoobhgidaaShA
namespace Go.Proofs.Ytknikhoobhgidaa
open Go.RowKit Go.Deep Go.Shelf
set_option linter.unusedVariables false
set_option linter.unusedSimpArgs false
set_option maxHeartbeats 4000000
set_option maxRecDepth 100000
theorem infoI6 : (Try.prog.info? 36).map (·.size) = some 6 := by kernel_rfl
theorem ldrop_any (B k : Nat) (row : Array Value) (p : Option Addr) (c : Nat) (l : List It) (i : Nat) (w : World) (hB : w.heap[B]? = some (.cells row 68 (0, 0))) (hk : row[k]? = some (.slice p l.length c)) (h : Li w p c l) (hi : i < l.length) (hn : l.length ≤ 4096) :
    Calls Try.prog 36 #[.pointer (some ⟨B, k, none⟩), .int .i64 i] w fun e w' => (∃ v, e = .returned (.agg v) ∧ v.size = 6 ∧ v.all (·.oneCell') = true) ∧ w'.heap[B]? = some (.cells (row.setIfInBounds k (.slice p (l.take i ++ l.drop (i + 1)).length c)) 68 (0, 0)) ∧ Li w' p c (l.take i ++ l.drop (i + 1)) ∧ Kp (fun b => b = B ∨ OfP p b) w w' := by
  obtain ⟨g, cur, rfl, hcu, _⟩ := h.some (by omega)
  obtain ⟨R, hR⟩ : ∃ R, w.heap.size = R := ⟨_, rfl⟩
  obtain ⟨W, hW⟩ : ∃ W, w.alloc (.cells #[.int .u64 0, .int .u32 0, .int .i64 0, .int .i64 0, .int .i64 0, .int .u64 0] 36) = W := ⟨_, rfl⟩
  have HBW := hid (show Below w.heap.size w W from by rw [← hW]; exact ball _ _)
  have HZ := hid (show W.heap[R]? = some (.cells #[.int .u64 0, .int .u32 0, .int .i64 0, .int .i64 0, .int .i64 0, .int .u64 0] 36 (0, 0)) from by rw [← hW, ← hR]; exact World.alloc_heap_new _ _)
  have HBr := hid (row_on hB HBW.out)
  have HL := hid (h.on HBW.out)
  obtain ⟨g', eg, a0, a1, a2, a3, a4, a5⟩ := HL.out.cells hi
  obtain rfl : g = g' := by injection eg with eg; injection eg
  clear eg
  have kB : W.cell? ⟨B, k, none⟩ = some (.slice (some ⟨g, 0, none⟩) l.length c) := by rw [row_cell HBr.out, hk]
  have CD := hid (fun (U : World) (hU : Below W.heap.size W U) => delete_any g c l i (i + 1) U (HL.out.on hU) (by omega) (by omega) hn)
  obtain ⟨z, hz⟩ : ∃ z, l[i] = z := ⟨_, rfl⟩
  rw [hz] at a0 a1 a2 a3 a4 a5
  obtain ⟨D, hD⟩ : ∃ D, l.take i ++ l.drop (i + 1) = D := ⟨_, rfl⟩
  rw [hD] at CD ⊢
  obtain ⟨nd, hnd⟩ : ∃ n, D.length = n := ⟨_, rfl⟩
  rw [hnd] at CD ⊢
  obtain ⟨n, hnn⟩ : ∃ n, l.length = n := ⟨_, rfl⟩
  rw [hnn] at CD kB hi hn hk
  rw [show ((i + 1 : Nat) : Int) = (i : Int) + 1 from by omega] at CD
  have HKR := hid hk
  have sB := row_lt hB
  have sg := row_lt hcu
  have hgB := row_ne hcu hB (by decide)
  have i0 : (0 : Int) ≤ (i : Int) := by omega
  have i1 : (i : Int) < (n : Int) := by omega
  have w1 : IntKind.i64.wrap ((i : Int) + 1) = (i : Int) + 1 := by rw [IntKind.wrap_i64]; omega
  have HW := hid hW
  have HRR := hid hR
  clear hW hR h hB hk hcu hz hD hnn
  go_enter Try.func36, Try.ntmps36
  go_upto_region 1 with fail
  rw [HW.out, HRR.out]
  go_upto_region 2 with fail
  obtain ⟨X, hX⟩ : ∃ X, W.alloc (.cells #[.int .u64 z.id, .int .u32 z.mb, .int .i64 z.sd, .int .i64 z.ty, .int .i64 z.pr, .int .u64 z.qt] 36) = X := ⟨_, rfl⟩
  obtain ⟨S, hS⟩ : ∃ g, W.heap.size = g := ⟨_, rfl⟩
  have BX := hid (show Below W.heap.size W X from by rw [← hX]; exact ball _ _)
  have HSX := hid (show X.heap[S]? = some (.cells #[.int .u64 z.id, .int .u32 z.mb, .int .i64 z.sd, .int .i64 z.ty, .int .i64 z.pr, .int .u64 z.qt] 36 (0, 0)) from by rw [← hX, ← hS]; exact World.alloc_heap_new _ _)
  have HSR := hid (show R < S from by rw [← hS]; exact row_lt HZ.out)
  rw [hX, hS]
  clear hX hS kB a0 a1 a2 a3 a4 a5
  have HBX := hid (row_on HBr.out BX.out)
  have kB : X.cell? ⟨B, k, none⟩ = some (.slice (some ⟨g, 0, none⟩) n c) := by rw [row_cell HBX.out]; exact HKR.out
  have hSg : S ≠ g := by have := HSR.out; have := HRR.out; omega
  have hSB : S ≠ B := by have := HSR.out; have := HRR.out; omega
  have hRg : R ≠ g := by have := HRR.out; omega
  have hRB : R ≠ B := by have := HRR.out; omega
  go_upto_region 3 with (go_at_call 52; refine (CD.out _ BX.out).mono ?_; rintro e v1 ⟨rfl, h1, h2⟩; have H1 := hid h1; have H2 := hid h2; have HB1 := hid (h2.row HBX.out (fun e => hgB e.symm)); have kB1 : v1.cell? ⟨B, k, none⟩ = some (.slice (some ⟨g, 0, none⟩) n c) := (by rw [row_cell HB1.out]; exact HKR.out); have fB1 := row_frz HB1.out k; clear h1 h2)
  obtain ⟨Y, hY⟩ : ∃ Y, v1.setCell ⟨B, k, none⟩ (.slice (some ⟨g, 0, none⟩) nd c) = Y := ⟨_, rfl⟩
  have KY := hid (show Kp (fun b => b = B) v1 Y from by rw [← hY]; exact Kp.set _ _ _ _)
  have HBY := hid (show Y.heap[B]? = some (.cells (row.setIfInBounds k (.slice (some ⟨g, 0, none⟩) nd c)) 68 (0, 0)) from by rw [← hY]; exact heap_setCell_same v1 B k _ 68 _ HB1.out)
  have HSY := hid (KY.out.row (H2.out.row HSX.out hSg) hSB)
  have HRY := hid (KY.out.row (H2.out.row (row_on HZ.out BX.out) hRg) hRB)
  have HLY := hid (H1.out.kept KY.out (fun b hb e => by rw [hb.eq] at e; exact hgB e))
  rw [hY]
  clear hY kB kB1 fB1
  obtain ⟨z0, z1, z2, z3, z4, z5⟩ := row6 HSY.out
  have AI := hid (show (Try.prog.info? 36).map (·.size) = some (#[.int .u64 z.id, .int .u32 z.mb, .int .i64 z.sd, .int .i64 z.ty, .int .i64 z.pr, .int .u64 z.qt] : Array Value).size from infoI6)
  have AS := hid (show (#[.int .u64 0, .int .u32 0, .int .i64 0, .int .i64 0, .int .i64 0, .int .u64 0] : Array Value).size = (#[.int .u64 z.id, .int .u32 z.mb, .int .i64 z.sd, .int .i64 z.ty, .int .i64 z.pr, .int .u64 z.qt] : Array Value).size from rfl)
  have AA := hid (show (#[.int .u64 z.id, .int .u32 z.mb, .int .i64 z.sd, .int .i64 z.ty, .int .i64 z.pr, .int .u64 z.qt] : Array Value).all (·.oneCell') = true from by simp [Value.oneCell'])
  go_wp2_with (refine wpList_store_row (by rfl) 36 (.tmp 4) (.tmp 21) (by rfl) R #[.int .u64 z.id, .int .u32 z.mb, .int .i64 z.sd, .int .i64 z.ty, .int .i64 z.pr, .int .u64 z.qt] (by rfl) (by rfl) 36 _ HRY.out AI.out AS.out AA.out ?_)
  have kq := setRow_kp Y R #[.int .u64 z.id, .int .u32 z.mb, .int .i64 z.sd, .int .i64 z.ty, .int .i64 z.pr, .int .u64 z.qt]
  refine bodyPost_ret (results_cell_row (fn := Try.f36) Try.results36 _ _ R 36 #[.int .u64 z.id, .int .u32 z.mb, .int .i64 z.sd, .int .i64 z.ty, .int .i64 z.pr, .int .u64 z.qt] (0, 0) _ (by rfl) (setRow_heap _ _ _ _ 36 (0, 0) HRY.out) Try.underlying36 rfl infoI6) rfl ⟨⟨_, rfl, rfl, AA.out⟩, kq.row HBY.out (fun e => hRB e.symm), HLY.out.kept kq (fun b hb e => by rw [hb.eq] at e; exact hRg e.symm), ?_⟩
  refine ((((Kp.of _ HBW.out).trans (Kp.of (fun b => b = B ∨ OfP (some ⟨g, 0, none⟩) b) BX.out) (fun _ _ h => h)).trans H2.out (fun b _ e => .inr (by rw [e]; exact OfP.mk g))).trans KY.out (fun b _ e => .inl e)).trans kq (fun b hb e => absurd hb (by have := HRR.out; omega))
end Go.Proofs.Ytknikhoobhgidaa
