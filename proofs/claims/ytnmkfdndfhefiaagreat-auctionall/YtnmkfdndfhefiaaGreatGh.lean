/-
  An interest is dropped.
-/
import Derived.Test.YtnmkfdndfhefiaaGreatPfA
namespace Go.Proofs.YtnmkfdndfhefiaaGreat
open Go.RowKit Go.Deep Go.Shelf
set_option linter.unusedVariables false
set_option linter.unusedSimpArgs false
set_option maxHeartbeats 4000000
set_option maxRecDepth 100000
theorem ldrop_any (B k : Nat) (row : Array Value) (p : Option Addr) (c : Nat) (l : List It) (i : Nat) (w : World) (hB : w.heap[B]? = some (.cells row 74 (0, 0))) (hk : row[k]? = some (.slice p l.length c)) (h : Li w p c l) (hi : i < l.length) (hn : l.length ≤ 4096) :
    Calls Tryz.prog 33 #[.pointer (some ⟨B, k, none⟩), .int .i64 i] w fun e w' => (∃ v, e = .returned (.agg v) ∧ v.size = 6 ∧ v.all (·.oneCell') = true ∧ v = irow l[i]) ∧ w'.heap[B]? = some (.cells (row.setIfInBounds k (.slice p (l.take i ++ l.drop (i + 1)).length c)) 74 (0, 0)) ∧ Li w' p c (l.take i ++ l.drop (i + 1)) ∧ Kp (fun b => b = B ∨ OfP p b) w w' := by
  obtain ⟨g, cur, rfl, hcu, _⟩ := h.some (by omega)
  obtain ⟨R, hR⟩ : ∃ R, w.heap.size = R := ⟨_, rfl⟩
  obtain ⟨W, hW⟩ : ∃ W, w.alloc (.cells #[.int .u64 0, .int .u32 0, .int .i64 0, .int .i64 0, .int .i64 0, .int .u64 0] 35) = W := ⟨_, rfl⟩
  have HBW := hid (show Below w.heap.size w W from by rw [← hW]; exact ball _ _)
  have HZ := hid (show W.heap[R]? = some (.cells #[.int .u64 0, .int .u32 0, .int .i64 0, .int .i64 0, .int .i64 0, .int .u64 0] 35 (0, 0)) from by rw [← hW, ← hR]; exact World.alloc_heap_new _ _)
  have HBr := hid (row_on hB HBW.out)
  have HL := hid (h.on HBW.out)
  obtain ⟨g', eg, a0, a1, a2, a3, a4, a5⟩ := HL.out.cells hi
  obtain rfl : g = g' := by injection eg with eg; injection eg
  clear eg
  have kB : W.cell? ⟨B, k, none⟩ = some (.slice (some ⟨g, 0, none⟩) l.length c) := by rw [row_cell HBr.out, hk]
  have CD := hid (fun (U : World) (hU : Below W.heap.size W U) => delete_any g c l i (i + 1) U (HL.out.on hU) (by omega) (by omega) hn)
  obtain ⟨z, hz⟩ : ∃ z, l[i] = z := ⟨_, rfl⟩
  have HZZ := hid hz
  rw [hz]
  rw [hz] at a0 a1 a2 a3 a4 a5
  obtain ⟨D, hD⟩ : ∃ D, l.take i ++ l.drop (i + 1) = D := ⟨_, rfl⟩
  rw [hD] at CD ⊢
  obtain ⟨nd, hnd⟩ : ∃ n, D.length = n := ⟨_, rfl⟩
  rw [hnd] at CD ⊢
  obtain ⟨n, hnn⟩ : ∃ n, l.length = n := ⟨_, rfl⟩
  rw [hnn] at CD kB hi hn hk
  rw [show ((i + 1 : Nat) : Int) = (i : Int) + 1 from by omega] at CD
  have HKR := hid hk
  have sB := row_lt hB
  have sg := row_lt hcu
  have hgB := row_ne hcu hB (by decide)
  have i0 : (0 : Int) ≤ (i : Int) := by omega
  have i1 : (i : Int) < (n : Int) := by omega
  have w1 : IntKind.i64.wrap ((i : Int) + 1) = (i : Int) + 1 := by rw [IntKind.wrap_i64]; omega
  have HW := hid hW
  have HRR := hid hR
  clear hW hR h hB hk hcu hz hD hnn
  go_enter Tryz.func33, Tryz.ntmps33
  go_upto_region 1 with fail
  rw [HW.out, HRR.out]
  go_upto_region 2 with fail
  obtain ⟨X, hX⟩ : ∃ X, W.alloc (.cells #[.int .u64 z.id, .int .u32 z.mb, .int .i64 z.sd, .int .i64 z.ty, .int .i64 z.pr, .int .u64 z.qt] 35) = X := ⟨_, rfl⟩
  obtain ⟨S, hS⟩ : ∃ g, W.heap.size = g := ⟨_, rfl⟩
  have BX := hid (show Below W.heap.size W X from by rw [← hX]; exact ball _ _)
  have HSX := hid (show X.heap[S]? = some (.cells #[.int .u64 z.id, .int .u32 z.mb, .int .i64 z.sd, .int .i64 z.ty, .int .i64 z.pr, .int .u64 z.qt] 35 (0, 0)) from by rw [← hX, ← hS]; exact World.alloc_heap_new _ _)
  have HSR := hid (show R < S from by rw [← hS]; exact row_lt HZ.out)
  rw [hX, hS]
  clear hX hS kB a0 a1 a2 a3 a4 a5
  have HBX := hid (row_on HBr.out BX.out)
  have kB : X.cell? ⟨B, k, none⟩ = some (.slice (some ⟨g, 0, none⟩) n c) := by rw [row_cell HBX.out]; exact HKR.out
  have hSg : S ≠ g := by have := HSR.out; have := HRR.out; omega
  have hSB : S ≠ B := by have := HSR.out; have := HRR.out; omega
  have hRg : R ≠ g := by have := HRR.out; omega
  have hRB : R ≠ B := by have := HRR.out; omega
  go_upto_region 3 with (go_at_call 55; refine (CD.out _ BX.out).mono ?_; rintro e v1 ⟨rfl, h1, h2⟩; have H1 := hid h1; have H2 := hid h2; have HB1 := hid (h2.row HBX.out (fun e => hgB e.symm)); have kB1 : v1.cell? ⟨B, k, none⟩ = some (.slice (some ⟨g, 0, none⟩) n c) := (by rw [row_cell HB1.out]; exact HKR.out); have fB1 := row_frz HB1.out k; clear h1 h2)
  obtain ⟨Y, hY⟩ : ∃ Y, v1.setCell ⟨B, k, none⟩ (.slice (some ⟨g, 0, none⟩) nd c) = Y := ⟨_, rfl⟩
  have KY := hid (show Kp (fun b => b = B) v1 Y from by rw [← hY]; exact Kp.set _ _ _ _)
  have HBY := hid (show Y.heap[B]? = some (.cells (row.setIfInBounds k (.slice (some ⟨g, 0, none⟩) nd c)) 74 (0, 0)) from by rw [← hY]; exact heap_setCell_same v1 B k _ 74 _ HB1.out)
  have HSY := hid (KY.out.row (H2.out.row HSX.out hSg) hSB)
  have HRY := hid (KY.out.row (H2.out.row (row_on HZ.out BX.out) hRg) hRB)
  have HLY := hid (H1.out.kept KY.out (fun b hb e => by rw [hb.eq] at e; exact hgB e))
  rw [hY]
  clear hY kB kB1 fB1
  obtain ⟨z0, z1, z2, z3, z4, z5⟩ := row6 HSY.out
  have AI := hid (show (Tryz.prog.info? 35).map (·.size) = some (#[.int .u64 z.id, .int .u32 z.mb, .int .i64 z.sd, .int .i64 z.ty, .int .i64 z.pr, .int .u64 z.qt] : Array Value).size from infoI6)
  have AS := hid (show (#[.int .u64 0, .int .u32 0, .int .i64 0, .int .i64 0, .int .i64 0, .int .u64 0] : Array Value).size = (#[.int .u64 z.id, .int .u32 z.mb, .int .i64 z.sd, .int .i64 z.ty, .int .i64 z.pr, .int .u64 z.qt] : Array Value).size from rfl)
  have AA := hid (show (#[.int .u64 z.id, .int .u32 z.mb, .int .i64 z.sd, .int .i64 z.ty, .int .i64 z.pr, .int .u64 z.qt] : Array Value).all (·.oneCell') = true from by simp [Value.oneCell'])
  go_wp2_with (refine wpList_store_row (by rfl) 35 (.tmp 4) (.tmp 21) (by rfl) R #[.int .u64 z.id, .int .u32 z.mb, .int .i64 z.sd, .int .i64 z.ty, .int .i64 z.pr, .int .u64 z.qt] (by rfl) (by rfl) 35 _ HRY.out AI.out AS.out AA.out ?_)
  have kq := setRow_kp Y R #[.int .u64 z.id, .int .u32 z.mb, .int .i64 z.sd, .int .i64 z.ty, .int .i64 z.pr, .int .u64 z.qt]
  refine bodyPost_ret (results_cell_row (fn := Tryz.f33) Tryz.results33 _ _ R 35 #[.int .u64 z.id, .int .u32 z.mb, .int .i64 z.sd, .int .i64 z.ty, .int .i64 z.pr, .int .u64 z.qt] (0, 0) _ (by rfl) (setRow_heap _ _ _ _ 35 (0, 0) HRY.out) Tryz.underlying35 rfl infoI6) rfl ⟨⟨_, rfl, rfl, AA.out, rfl⟩, kq.row HBY.out (fun e => hRB e.symm), HLY.out.kept kq (fun b hb e => by rw [hb.eq] at e; exact hRg e.symm), ?_⟩
  refine ((((Kp.of _ HBW.out).trans (Kp.of (fun b => b = B ∨ OfP (some ⟨g, 0, none⟩) b) BX.out) (fun _ _ h => h)).trans H2.out (fun b _ e => .inr (by rw [e]; exact OfP.mk g))).trans KY.out (fun b _ e => .inl e)).trans kq (fun b hb e => absurd hb (by have := HRR.out; omega))
end Go.Proofs.YtnmkfdndfhefiaaGreat
namespace Go.Proofs.YtnmkfdndfhefiaaGreat
open Go.RowKit Go.Deep Go.Shelf
set_option linter.unusedVariables false
set_option linter.unusedSimpArgs false
set_option maxHeartbeats 4000000
set_option maxRecDepth 100000
/-- all but one. -/
def cutAt (i : Nat) (l : List It) : List It := l.take i ++ l.drop (i + 1)
theorem cutAt_len {i : Nat} {l : List It} (hi : i < l.length) : (cutAt i l).length + 1 = l.length := by unfold cutAt; rw [List.length_append, List.length_take, List.length_drop]; omega
theorem cutAt_sub (i : Nat) (l : List It) : (cutAt i l).Sublist l := by
  have h : (l.take i ++ l.drop (i + 1)).Sublist (l.take i ++ l.drop i) := List.Sublist.append (List.Sublist.refl _) (by rw [← List.drop_drop]; exact List.drop_sublist _ _)
  rw [List.take_append_drop] at h
  exact h
theorem Sd.sub {s : Int} {l l' : List It} (h : Sd s l) (hs : l'.Sublist l) : Sd s l' := ⟨fun x hx => h.ok x (hs.subset hx), h.so.sublist hs, Nat.le_trans hs.length_le h.ln⟩
theorem drop_buy (B : Nat) (r m : Int) (p1 : Option Addr) (c1 : Nat) (b : List It) (p2 : Option Addr) (c2 : Nat) (s : List It) (id : Int) (i : Nat) (w : World) (h : Cl w B r m p1 c1 b p2 c2 s) (hf : fni id b = i) (hi : i < b.length) :
    Calls Tryz.prog 12 #[.pointer (some ⟨B, 0, none⟩), .int .u64 id] w fun e w' => e = .returned (.tuple #[.agg (irow b[i]), .bool true]) ∧ Cl w' B r m p1 c1 (cutAt i b) p2 c2 s ∧ Kp (fun j => j = B ∨ OfP p1 j ∨ OfP p2 j) w w' := by
  obtain ⟨R, hR⟩ : ∃ R, w.heap.size = R := ⟨_, rfl⟩
  obtain ⟨W, hW⟩ : ∃ W, w.alloc (.cells #[.int .u64 0, .int .u32 0, .int .i64 0, .int .i64 0, .int .i64 0, .int .u64 0] 35) = W := ⟨_, rfl⟩
  have HBW := hid (show Below w.heap.size w W from by rw [← hW]; exact ball _ _)
  have HZ := hid (show W.heap[R]? = some (.cells #[.int .u64 0, .int .u32 0, .int .i64 0, .int .i64 0, .int .i64 0, .int .u64 0] 35 (0, 0)) from by rw [← hW, ← hR]; exact World.alloc_heap_new _ _)
  have HC := hid h
  have CF := hid (find_any p1 c1 b id W (h.l1.on HBW.out) h.s1.ln)
  rw [hf] at CF
  have CD := hid (fun (U : World) (hU : Below W.heap.size W U) => ldrop_any B 2 _ p1 c1 b i U (row_on (row_on h.row HBW.out) hU) rfl ((h.l1.on HBW.out).on hU) hi h.s1.ln)
  change Hid (∀ (U : World), Below W.heap.size W U → Calls Tryz.prog 33 #[.pointer (some ⟨B, 2, none⟩), .int .i64 i] U fun e w' => (∃ v, e = .returned (.agg v) ∧ v.size = 6 ∧ v.all (·.oneCell') = true ∧ v = irow b[i]) ∧ w'.heap[B]? = some (.cells #[.int .i64 r, .int .i64 m, .slice p1 (cutAt i b).length c1, .slice p2 s.length c2] 74 (0, 0)) ∧ Li w' p1 c1 (cutAt i b) ∧ Kp (fun b => b = B ∨ OfP p1 b) U w') at CD
  obtain ⟨zz, hzz⟩ : ∃ z, b[i] = z := ⟨_, rfl⟩
  rw [hzz] at CD ⊢
  clear hzz
  obtain ⟨k0, k1, k2, k3⟩ := (h.on HBW.out).cells
  obtain ⟨n1, hn1⟩ : ∃ n, b.length = n := ⟨_, rfl⟩
  rw [hn1] at CF k2
  have sB := row_lt h.row
  have i0 : (0 : Int) ≤ (i : Int) := by omega
  have HPB := hid (show ∀ g, OfP p1 g → g < w.heap.size from fun g hg => by obtain ⟨cu, hc⟩ := h.l1.ty hg; exact row_lt hc)
  have HI := hid hi
  have HW := hid hW
  have HRR := hid hR
  clear h hW hR hf hn1 hi
  go_enter Tryz.func12, Tryz.ntmps12
  go_upto_region 1 with fail
  rw [HW.out, HRR.out]
  go_upto_region 2 with fail
  go_loopw [8] (fun iv wr => iv = .int .i64 0 ∧ Hid (W = wr)) (fun iv _ => 1)
  case atStart => exact ⟨rfl, hid rfl⟩
  case round =>
    obtain ⟨rfl, HWR⟩ := hrel
    have hw := HWR.out
    subst hw
    go_upto_region 6 with (go_at_call 32; with_reducible refine (CF.out).mono ?_; rintro e v1 ⟨rfl, hb⟩; have V1 := hid hb; clear hb)
    go_wp2_with (first | (go_at_call 33; refine (CD.out _ V1.out).mono ?_; rintro e v2 ⟨⟨v, rfl, v6, va, hv⟩, h1, h2, h3⟩; have HV := hid hv; clear hv; have H1 := hid h1; have H2 := hid h2; have H3 := hid h3; have AI := hid (show (Tryz.prog.info? 35).map (·.size) = some v.size from by rw [v6]; exact infoI6); have AS := hid (show (#[.int .u64 0, .int .u32 0, .int .i64 0, .int .i64 0, .int .i64 0, .int .u64 0] : Array Value).size = v.size from v6.symm); have AA := hid va; have HRV := hid (h3.row (row_on HZ.out V1.out) (fun e => e.elim (fun e => by have := HRR.out; omega) (fun e => by have := HPB.out R e; have := HRR.out; omega))); clear h1 h2 h3 v6 va) | (refine wpList_store_row (by rfl) 35 (.tmp 4) (.tmp 27) (by rfl) R v (by rfl) (by rfl) 35 _ HRV.out AI.out AS.out AA.out ?_))
    have kq := setRow_kp v2 R v
    have hRB : B ≠ R := by have := HRR.out; omega
    have hc := HC.out
    have hRp : ∀ g, OfP p1 g ∨ OfP p2 g → g ≠ R := fun g hg e => by
      have := HRR.out
      rcases hg with hg | hg
      · obtain ⟨cu, hcu⟩ := hc.l1.ty hg; have := row_lt hcu; omega
      · obtain ⟨cu, hcu⟩ := hc.l2.ty hg; have := row_lt hcu; omega
    have hk2 : Kp (fun j => j = B ∨ OfP p1 j ∨ OfP p2 j) w v2 := ((Kp.of _ (btr HBW.out V1.out))).trans H3.out (fun g _ e => e.elim .inl (fun e => .inr (.inl e)))
    refine bodyPost_ret (res_ct (fn := Tryz.f12) Tryz.results12 _ _ R 35 v (0, 0) _ (.bool true) (by rfl) (by rfl) (setRow_heap _ _ _ _ 35 (0, 0) HRV.out) Tryz.underlying35 rfl AI.out) rfl ⟨by rw [HV.out], ⟨kq.row H1.out hRB, H2.out.kept kq (fun g hg e => hRp g (.inl hg) e), ?_, hc.s1.sub (cutAt_sub i b), hc.s2, hc.ap, hc.r0, hc.r1, hc.m0, hc.m1, ?_⟩, hk2.trans kq (fun g hg e => absurd hg (by have := HRR.out; omega))⟩
    · refine ((hc.l2.on (btr HBW.out V1.out)).kept H3.out (fun g hg e => ?_)).kept kq (fun g hg e => hRp g (.inr hg) e)
      rcases e with e | e
      · obtain ⟨cu, hcu⟩ := hc.l2.ty hg; exact row_ne hcu hc.row (by decide) e
      · exact hc.ap g e hg
    · have := hc.mb; have := cutAt_len HI.out; omega
theorem drop_sell (B : Nat) (r m : Int) (p1 : Option Addr) (c1 : Nat) (b : List It) (p2 : Option Addr) (c2 : Nat) (s : List It) (id : Int) (i : Nat) (w : World) (h : Cl w B r m p1 c1 b p2 c2 s) (hf0 : fni id b = -1) (hf : fni id s = i) (hi : i < s.length) :
    Calls Tryz.prog 12 #[.pointer (some ⟨B, 0, none⟩), .int .u64 id] w fun e w' => e = .returned (.tuple #[.agg (irow s[i]), .bool true]) ∧ Cl w' B r m p1 c1 b p2 c2 (cutAt i s) ∧ Kp (fun j => j = B ∨ OfP p1 j ∨ OfP p2 j) w w' := by
  obtain ⟨R, hR⟩ : ∃ R, w.heap.size = R := ⟨_, rfl⟩
  obtain ⟨W, hW⟩ : ∃ W, w.alloc (.cells #[.int .u64 0, .int .u32 0, .int .i64 0, .int .i64 0, .int .i64 0, .int .u64 0] 35) = W := ⟨_, rfl⟩
  have HBW := hid (show Below w.heap.size w W from by rw [← hW]; exact ball _ _)
  have HZ := hid (show W.heap[R]? = some (.cells #[.int .u64 0, .int .u32 0, .int .i64 0, .int .i64 0, .int .i64 0, .int .u64 0] 35 (0, 0)) from by rw [← hW, ← hR]; exact World.alloc_heap_new _ _)
  have HC := hid h
  have CF0 := hid (find_any p1 c1 b id W (h.l1.on HBW.out) h.s1.ln)
  rw [hf0] at CF0
  have CF := hid (fun (U : World) (hU : Below W.heap.size W U) => find_any p2 c2 s id U ((h.l2.on HBW.out).on hU) h.s2.ln)
  rw [hf] at CF
  have CD := hid (fun (U : World) (hU : Below W.heap.size W U) => ldrop_any B 3 _ p2 c2 s i U (row_on (row_on h.row HBW.out) hU) rfl ((h.l2.on HBW.out).on hU) hi h.s2.ln)
  change Hid (∀ (U : World), Below W.heap.size W U → Calls Tryz.prog 33 #[.pointer (some ⟨B, 3, none⟩), .int .i64 i] U fun e w' => (∃ v, e = .returned (.agg v) ∧ v.size = 6 ∧ v.all (·.oneCell') = true ∧ v = irow s[i]) ∧ w'.heap[B]? = some (.cells #[.int .i64 r, .int .i64 m, .slice p1 b.length c1, .slice p2 (cutAt i s).length c2] 74 (0, 0)) ∧ Li w' p2 c2 (cutAt i s) ∧ Kp (fun b => b = B ∨ OfP p2 b) U w') at CD
  obtain ⟨zz, hzz⟩ : ∃ z, s[i] = z := ⟨_, rfl⟩
  rw [hzz] at CD ⊢
  clear hzz
  have HK := hid (show ∀ U, Below W.heap.size W U → U.cell? ⟨B, 2, none⟩ = some (.slice p1 b.length c1) ∧ U.cell? ⟨B, 3, none⟩ = some (.slice p2 s.length c2) from fun U hU => ⟨((h.on HBW.out).on hU).cells.2.2.1, ((h.on HBW.out).on hU).cells.2.2.2⟩)
  obtain ⟨n1, hn1⟩ : ∃ n, b.length = n := ⟨_, rfl⟩
  obtain ⟨n2, hn2⟩ : ∃ n, s.length = n := ⟨_, rfl⟩
  rw [hn1] at CF0 HK
  rw [hn2] at CF HK
  have sB := row_lt h.row
  have i0 : (0 : Int) ≤ (i : Int) := by omega
  have HPB := hid (show ∀ g, OfP p2 g → g < w.heap.size from fun g hg => by obtain ⟨cu, hc⟩ := h.l2.ty hg; exact row_lt hc)
  have HI := hid hi
  have HW := hid hW
  have HRR := hid hR
  clear h hW hR hf hn1 hn2 hi hf0
  go_enter Tryz.func12, Tryz.ntmps12
  go_upto_region 1 with fail
  rw [HW.out, HRR.out]
  go_upto_region 2 with fail
  go_loopw [8] (fun iv wr => ∃ k : Nat, k ≤ 1 ∧ iv = .int .i64 k ∧ Hid (k = 0 → W = wr) ∧ Hid (Below W.heap.size W wr)) (fun iv _ => 2 - (intOf iv).toNat)
  case atStart => exact ⟨0, by omega, rfl, hid (fun _ => rfl), hid (Below.refl _ _)⟩
  case round =>
    obtain ⟨k, hk, rfl, HWR, HBR⟩ := hrel
    by_cases h0 : k = 0
    · subst h0
      have hw := HWR.out rfl
      subst hw
      obtain ⟨k2, k3⟩ := HK.out W (Below.refl _ _)
      go_wp2_with (go_at_call 32; with_reducible refine (CF0.out).mono ?_; rintro e v1 ⟨rfl, hb⟩; have V1 := hid hb; clear hb)
      go_roundw
      case rel => exact ⟨1, by omega, by go_num, hid (fun e => by omega), hid V1.out⟩
      case measure => simp [intOf]
    · obtain rfl : k = 1 := by omega
      obtain ⟨k2, k3⟩ := HK.out wr HBR.out
      go_upto_region 6 with (go_at_call 32; with_reducible refine (CF.out _ HBR.out).mono ?_; rintro e v1 ⟨rfl, hb⟩; have V1 := hid (btr HBR.out hb); clear hb)
      go_wp2_with (first | (go_at_call 33; refine (CD.out _ V1.out).mono ?_; rintro e v2 ⟨⟨v, rfl, v6, va, hv⟩, h1, h2, h3⟩; have HV := hid hv; clear hv; have H1 := hid h1; have H2 := hid h2; have H3 := hid h3; have AI := hid (show (Tryz.prog.info? 35).map (·.size) = some v.size from by rw [v6]; exact infoI6); have AS := hid (show (#[.int .u64 0, .int .u32 0, .int .i64 0, .int .i64 0, .int .i64 0, .int .u64 0] : Array Value).size = v.size from v6.symm); have AA := hid va; have HRV := hid (h3.row (row_on HZ.out V1.out) (fun e => e.elim (fun e => by have := HRR.out; omega) (fun e => by have := HPB.out R e; have := HRR.out; omega))); clear h1 h2 h3 v6 va) | (refine wpList_store_row (by rfl) 35 (.tmp 4) (.tmp 27) (by rfl) R v (by rfl) (by rfl) 35 _ HRV.out AI.out AS.out AA.out ?_))
      have kq := setRow_kp v2 R v
      have hRB : B ≠ R := by have := HRR.out; omega
      have hc := HC.out
      have hRp : ∀ g, OfP p1 g ∨ OfP p2 g → g ≠ R := fun g hg e => by
        have := HRR.out
        rcases hg with hg | hg
        · obtain ⟨cu, hcu⟩ := hc.l1.ty hg; have := row_lt hcu; omega
        · obtain ⟨cu, hcu⟩ := hc.l2.ty hg; have := row_lt hcu; omega
      have hk2 : Kp (fun j => j = B ∨ OfP p1 j ∨ OfP p2 j) w v2 := ((Kp.of _ (btr HBW.out V1.out))).trans H3.out (fun g _ e => e.elim .inl (fun e => .inr (.inr e)))
      refine bodyPost_ret (res_ct (fn := Tryz.f12) Tryz.results12 _ _ R 35 v (0, 0) _ (.bool true) (by rfl) (by rfl) (setRow_heap _ _ _ _ 35 (0, 0) HRV.out) Tryz.underlying35 rfl AI.out) rfl ⟨by rw [HV.out], ⟨kq.row H1.out hRB, ?_, H2.out.kept kq (fun g hg e => hRp g (.inr hg) e), hc.s1, hc.s2.sub (cutAt_sub i s), hc.ap, hc.r0, hc.r1, hc.m0, hc.m1, ?_⟩, hk2.trans kq (fun g hg e => absurd hg (by have := HRR.out; omega))⟩
      · refine ((hc.l1.on (btr HBW.out V1.out)).kept H3.out (fun g hg e => ?_)).kept kq (fun g hg e => hRp g (.inl hg) e)
        rcases e with e | e
        · obtain ⟨cu, hcu⟩ := hc.l1.ty hg; exact row_ne hcu hc.row (by decide) e
        · exact hc.ap g hg e
      · have := hc.mb; have := cutAt_len HI.out; omega
theorem drop_none (B : Nat) (r m : Int) (p1 : Option Addr) (c1 : Nat) (b : List It) (p2 : Option Addr) (c2 : Nat) (s : List It) (id : Int) (w : World) (h : Cl w B r m p1 c1 b p2 c2 s) (hf0 : fni id b = -1) (hf : fni id s = -1) :
    Calls Tryz.prog 12 #[.pointer (some ⟨B, 0, none⟩), .int .u64 id] w fun e w' => e = .returned (.tuple #[.agg #[.int .u64 0, .int .u32 0, .int .i64 0, .int .i64 0, .int .i64 0, .int .u64 0], .bool false]) ∧ Below w.heap.size w w' := by
  obtain ⟨R, hR⟩ : ∃ R, w.heap.size = R := ⟨_, rfl⟩
  obtain ⟨W, hW⟩ : ∃ W, w.alloc (.cells #[.int .u64 0, .int .u32 0, .int .i64 0, .int .i64 0, .int .i64 0, .int .u64 0] 35) = W := ⟨_, rfl⟩
  have HBW := hid (show Below w.heap.size w W from by rw [← hW]; exact ball _ _)
  have HZ := hid (show W.heap[R]? = some (.cells #[.int .u64 0, .int .u32 0, .int .i64 0, .int .i64 0, .int .i64 0, .int .u64 0] 35 (0, 0)) from by rw [← hW, ← hR]; exact World.alloc_heap_new _ _)
  have HC := hid h
  have CF0 := hid (find_any p1 c1 b id W (h.l1.on HBW.out) h.s1.ln)
  rw [hf0] at CF0
  have CF := hid (fun (U : World) (hU : Below W.heap.size W U) => find_any p2 c2 s id U ((h.l2.on HBW.out).on hU) h.s2.ln)
  rw [hf] at CF
  have HK := hid (show ∀ U, Below W.heap.size W U → U.cell? ⟨B, 2, none⟩ = some (.slice p1 b.length c1) ∧ U.cell? ⟨B, 3, none⟩ = some (.slice p2 s.length c2) from fun U hU => ⟨((h.on HBW.out).on hU).cells.2.2.1, ((h.on HBW.out).on hU).cells.2.2.2⟩)
  obtain ⟨n1, hn1⟩ : ∃ n, b.length = n := ⟨_, rfl⟩
  obtain ⟨n2, hn2⟩ : ∃ n, s.length = n := ⟨_, rfl⟩
  rw [hn1] at CF0 HK
  rw [hn2] at CF HK
  have sB := row_lt h.row
  have HPB := hid (show ∀ g, OfP p2 g → g < w.heap.size from fun g hg => by obtain ⟨cu, hc⟩ := h.l2.ty hg; exact row_lt hc)
  have HW := hid hW
  have HRR := hid hR
  clear h hW hR hf hn1 hn2 hf0
  go_enter Tryz.func12, Tryz.ntmps12
  go_upto_region 1 with fail
  rw [HW.out, HRR.out]
  go_upto_region 2 with fail
  go_loopw [8] (fun iv wr => ∃ k : Nat, k ≤ 2 ∧ iv = .int .i64 k ∧ Hid (k = 0 → W = wr) ∧ Hid (Below W.heap.size W wr)) (fun iv _ => 3 - (intOf iv).toNat)
  case atStart => exact ⟨0, by omega, rfl, hid (fun _ => rfl), hid (Below.refl _ _)⟩
  case round =>
    obtain ⟨k, hk, rfl, HWR, HBR⟩ := hrel
    by_cases h0 : k = 0
    · subst h0
      have hw := HWR.out rfl
      subst hw
      obtain ⟨k2, k3⟩ := HK.out W (Below.refl _ _)
      go_wp2_with (go_at_call 32; with_reducible refine (CF0.out).mono ?_; rintro e v1 ⟨rfl, hb⟩; have V1 := hid hb; clear hb)
      go_roundw
      case rel => exact ⟨1, by omega, by go_num, hid (fun e => by omega), hid V1.out⟩
      case measure => simp [intOf]
    · by_cases h1 : k = 1
      · subst h1
        obtain ⟨k2, k3⟩ := HK.out wr HBR.out
        go_wp2_with (go_at_call 32; with_reducible refine (CF.out _ HBR.out).mono ?_; rintro e v1 ⟨rfl, hb⟩; have V1 := hid (btr HBR.out hb); clear hb)
        go_roundw
        case rel => exact ⟨2, by omega, by go_num, hid (fun e => by omega), hid V1.out⟩
        case measure => simp [intOf]
      · obtain rfl : k = 2 := by omega
        have HZR := hid (row_on HZ.out HBR.out)
        go_wp2_with (refine wpList_store_row (by rfl) 35 (.tmp 4) (.tmp 29) (by rfl) R #[.int .u64 0, .int .u32 0, .int .i64 0, .int .i64 0, .int .i64 0, .int .u64 0] (by rfl) (by rfl) 35 _ HZR.out infoI6 (by rfl) (by simp [Value.oneCell']) ?_)
        refine bodyPost_ret (res_ct (fn := Tryz.f12) Tryz.results12 _ _ R 35 #[.int .u64 0, .int .u32 0, .int .i64 0, .int .i64 0, .int .i64 0, .int .u64 0] (0, 0) _ (.bool false) (by rfl) (by rfl) (setRow_heap _ _ _ _ 35 (0, 0) HZR.out) Tryz.underlying35 rfl infoI6) rfl ⟨rfl, setRow_below (btr HBW.out HBR.out) (by have := HRR.out; omega)⟩
end Go.Proofs.YtnmkfdndfhefiaaGreat
namespace Go.Proofs.YtnmkfdndfhefiaaGreat
open Go.RowKit Go.Deep Go.Shelf
set_option linter.unusedVariables false
set_option linter.unusedSimpArgs false
set_option maxHeartbeats 4000000
set_option maxRecDepth 100000
/-- the one of an ID. -/
def dit (id : Int) (L : List It) : It := (L.find? (fun y => y.id == id)).getD ⟨0, 0, 0, 0, 0, 0⟩
theorem dit_at {L : List It} (h : Lk L) {x : It} (hx : x ∈ L) : dit x.id L = x := by
  unfold dit
  cases hf : L.find? (fun y => y.id == x.id) with
  | none => rw [List.find?_eq_none] at hf; exact absurd (by simp) (hf x hx)
  | some y =>
    have h1 := List.find?_some hf
    have h2 := List.mem_of_find?_eq_some hf
    exact h.inj h2 hx (by simpa using h1)
theorem dit_no {L : List It} {id : Int} (hx : ∀ y ∈ L, y.id ≠ id) : dit id L = ⟨0, 0, 0, 0, 0, 0⟩ := by
  unfold dit
  rw [List.find?_eq_none.2 (fun y hy => by simpa using hx y hy)]
  rfl
theorem hsi_at {L : List It} {x : It} (hx : x ∈ L) : hsi x.id L = true := by unfold hsi; rw [List.any_eq_true]; exact ⟨x, hx, by simp⟩
theorem hsi_non {L : List It} {id : Int} (hx : ∀ y ∈ L, y.id ≠ id) : hsi id L = false := by unfold hsi; rw [List.any_eq_false]; exact fun y hy => by simpa using hx y hy
theorem oth_no {L : List It} {id : Int} (hx : ∀ y ∈ L, y.id ≠ id) : oth id L = L := by unfold oth; exact List.filter_eq_self.2 (fun y hy => by simpa using hx y hy)
theorem fni_no {L : List It} {id : Int} (hx : ∀ y ∈ L, y.id ≠ id) : fni id L = -1 := fni_none (fun j hj => hx _ (List.getElem_mem hj))
theorem Lk.iso {L : List It} (h : Lk L) (s : Int) : Lk (Go.Proofs.YtnmkfdndfhefiaaGreat.iso s L) := by
  refine ⟨fun x hx => h.ok x (mem_iso.1 hx).1, ((iso_perm s L).map (·.id)).nodup_iff.2 (h.nd.sublist (List.Sublist.map _ List.filter_sublist)), Nat.le_trans (by rw [(iso_perm s L).length_eq]; exact List.length_filter_le _ _) h.ln⟩
theorem iso_oth {L : List It} (h : Lk L) (s id : Int) : iso s (oth id L) = oth id (iso s L) := by unfold oth; exact iso_filter h.ik _
theorem drop_any (B : Nat) (r m : Int) (p1 : Option Addr) (c1 : Nat) (L : List It) (p2 : Option Addr) (c2 : Nat) (id : Int) (w : World) (h : Cl w B r m p1 c1 (iso 1 L) p2 c2 (iso 2 L)) (hk : Lk L) :
    Calls Tryz.prog 12 #[.pointer (some ⟨B, 0, none⟩), .int .u64 id] w fun e w' => e = .returned (.tuple #[.agg (irow (dit id L)), .bool (hsi id L)]) ∧ Cl w' B r m p1 c1 (iso 1 (oth id L)) p2 c2 (iso 2 (oth id L)) ∧ Kp (fun j => j = B ∨ OfP p1 j ∨ OfP p2 j) w w' := by
  rw [iso_oth hk, iso_oth hk]
  by_cases hx : ∃ x ∈ L, x.id = id
  · obtain ⟨x, hx, rfl⟩ := hx
    have hns : ∀ s, s ≠ x.sd → ∀ y ∈ iso s L, y.id ≠ x.id := fun s hs y hy e => by
      obtain ⟨a, b⟩ := mem_iso.1 hy
      have := hk.inj a hx e
      subst this
      exact hs b.symm
    rw [dit_at hk hx, hsi_at hx]
    rcases (hk.ok x hx).2 with hs | hs
    · have hm : x ∈ iso 1 L := mem_iso.2 ⟨hx, hs⟩
      obtain ⟨i, hi, e1, e2⟩ := fni_in (hk.iso 1) hm
      have := drop_buy B r m p1 c1 (iso 1 L) p2 c2 (iso 2 L) x.id i w h e1 hi
      rw [e2] at this
      have e3 : cutAt i (iso 1 L) = oth x.id (iso 1 L) := by unfold cutAt; rw [oth_at (hk.iso 1) hi, e2]
      rw [e3] at this
      rw [oth_no (hns 2 (by omega))]
      exact this
    · have hm : x ∈ iso 2 L := mem_iso.2 ⟨hx, hs⟩
      obtain ⟨i, hi, e1, e2⟩ := fni_in (hk.iso 2) hm
      have := drop_sell B r m p1 c1 (iso 1 L) p2 c2 (iso 2 L) x.id i w h (fni_no (hns 1 (by omega))) e1 hi
      rw [e2] at this
      have e3 : cutAt i (iso 2 L) = oth x.id (iso 2 L) := by unfold cutAt; rw [oth_at (hk.iso 2) hi, e2]
      rw [e3] at this
      rw [oth_no (hns 1 (by omega))]
      exact this
  · have hno : ∀ y ∈ L, y.id ≠ id := fun y hy e => hx ⟨y, hy, e⟩
    have hns : ∀ s, ∀ y ∈ iso s L, y.id ≠ id := fun s y hy => hno y (mem_iso.1 hy).1
    rw [dit_no hno, hsi_non hno, oth_no (hns 1), oth_no (hns 2)]
    refine (drop_none B r m p1 c1 (iso 1 L) p2 c2 (iso 2 L) id w h (fni_no (hns 1)) (fni_no (hns 2))).mono ?_
    rintro e w' ⟨rfl, hb⟩
    exact ⟨rfl, h.on hb, Kp.of _ hb⟩
theorem rdrop_none (r m id : Int) (p : Option Addr) (c : Nat) (L : List It) (w : World) (h : Li w p c L) (hk : Lk L) (hf : fni id L = -1) :
    Calls Tryz.prog 13 #[.agg #[.int .i64 r, .int .i64 m, .slice p L.length c], .int .u64 id] w fun e w' => e = .returned (.tuple #[.agg #[.int .i64 r, .int .i64 m, .slice p L.length c], .agg #[.int .u64 0, .int .u32 0, .int .i64 0, .int .i64 0, .int .i64 0, .int .u64 0], .bool false]) ∧ Below w.heap.size w w' := by
  have CP := hid (fun (U : World) (hU : Below w.heap.size w U) => rplace_any r m id p c L U (h.on hU) hk.ln)
  rw [hf] at CP
  obtain ⟨n, hn⟩ : ∃ n, L.length = n := ⟨_, rfl⟩
  rw [hn] at CP ⊢
  obtain ⟨R, hR⟩ : ∃ R, w.heap.size = R := ⟨_, rfl⟩
  obtain ⟨W, hW⟩ : ∃ W, ((w.alloc (.cells #[.int .i64 r, .int .i64 m, .slice p n c] 29)).alloc (.cells #[.int .i64 0, .int .i64 0, .slice none 0 0] 29)).alloc (.cells #[.int .u64 0, .int .u32 0, .int .i64 0, .int .i64 0, .int .i64 0, .int .u64 0] 35) = W := ⟨_, rfl⟩
  have HE := hid (Dr0.mk' hW hR)
  have HW := hid hW
  have HRR := hid hR
  have CPW := hid (CP.out W HE.out.be)
  obtain ⟨k0, k1, k2⟩ := row3 HE.out.a
  clear hW hR h hn CP hf
  go_enter Tryz.func13, Tryz.ntmps13
  go_upto_region 1 with fail
  rw [HW.out, HRR.out]
  go_upto_region 3 with (go_at_call 28; with_reducible refine (CPW.out).mono ?_; rintro e v1 ⟨rfl, hb⟩; have V1 := hid hb; clear hb)
  clear k0 k1 k2
  have HEU := hid (HE.out.on V1.out)
  obtain ⟨k0, k1, k2⟩ := row3 HEU.out.a
  have HB := hid HEU.out.b
  have HZ := hid HEU.out.z
  go_wp2_with (first | (refine wpList_store_row (by rfl) 29 (.tmp 4) (.tmp 14) (by rfl) (R + 1) #[.int .i64 r, .int .i64 m, .slice p n c] (by rfl) (by rfl) 29 _ HB.out infoRc (by rfl) (by simp [Value.oneCell']) ?_; have HZ1 := hid ((setRow_other v1 (R + 1) (R + 2) #[.int .i64 r, .int .i64 m, .slice p n c] (by omega)).trans HZ.out)) | (refine wpList_store_row (by rfl) 35 (.tmp 5) (.tmp 15) (by rfl) (R + 2) #[.int .u64 0, .int .u32 0, .int .i64 0, .int .i64 0, .int .i64 0, .int .u64 0] (by rfl) (by rfl) 35 _ HZ1.out infoI6 (by rfl) (by simp [Value.oneCell']) ?_))
  refine bodyPost_ret (res_cct (fn := Tryz.f13) Tryz.results13 _ _ (R + 1) (R + 2) 29 35 #[.int .i64 r, .int .i64 m, .slice p n c] #[.int .u64 0, .int .u32 0, .int .i64 0, .int .i64 0, .int .i64 0, .int .u64 0] (0, 0) (0, 0) _ _ (.bool false) (by rfl) (by rfl) (by rfl) ((setRow_other _ (R + 2) (R + 1) _ (by omega)).trans (setRow_heap _ _ _ _ 29 (0, 0) HB.out)) (setRow_heap _ _ _ _ 35 (0, 0) HZ1.out) Tryz.underlying29 rfl infoR Tryz.underlying35 rfl infoI6) rfl ⟨rfl, ?_⟩
  exact setRow_below (setRow_below HEU.out.be (by have := HRR.out; omega)) (by have := HRR.out; omega)
theorem rdrop_any (r m id : Int) (p : Option Addr) (c : Nat) (L : List It) (w : World) (h : Li w p c L) (hk : Lk L) :
    Calls Tryz.prog 13 #[.agg #[.int .i64 r, .int .i64 m, .slice p L.length c], .int .u64 id] w fun e w' => ∃ p' c', e = .returned (.tuple #[.agg #[.int .i64 r, .int .i64 m, .slice p' (oth id L).length c'], .agg (irow (dit id L)), .bool (hsi id L)]) ∧ Li w' p' c' (oth id L) ∧ Below w.heap.size w w' ∧ ∀ g, OfP p' g → OfP p g ∨ w.heap.size ≤ g := by
  by_cases hx : ∃ x ∈ L, x.id = id
  · obtain ⟨x, hx, rfl⟩ := hx
    rw [dit_at hk hx, hsi_at hx]
    obtain ⟨i, hi, rfl⟩ := List.getElem_of_mem hx
    refine (rdrop_at r m p c L i hi w h hk).mono ?_
    rintro e w' ⟨p', c', rfl, h1, h2, h3⟩
    exact ⟨p', c', rfl, h1, h2, fun g hg => .inr (h3 g hg)⟩
  · have hno : ∀ y ∈ L, y.id ≠ id := fun y hy e => hx ⟨y, hy, e⟩
    rw [dit_no hno, hsi_non hno, oth_no hno]
    refine (rdrop_none r m id p c L w h hk (fni_no hno)).mono ?_
    rintro e w' ⟨rfl, hb⟩
    exact ⟨p, c, rfl, h.on hb, hb, fun g hg => .inl hg⟩
theorem anchor_any (B : Nat) (r m n : Int) (p1 : Option Addr) (c1 : Nat) (L : List It) (p2 : Option Addr) (c2 : Nat) (w : World) (h : Cl w B r m p1 c1 (iso 1 L) p2 c2 (iso 2 L)) :
    Calls Tryz.prog 22 #[.pointer (some ⟨B, 0, none⟩), .int .i64 n] w fun e w' => e = .returned (.int .i64 (if isP n = true then 0 else 1)) ∧ Cl w' B (if isP n = true then n else r) m p1 c1 (iso 1 L) p2 c2 (iso 2 L) ∧ Kp (fun j => j = B) w w' := by
  have CI := hid (fun U => isPrice_any n U)
  cases hp : isP n with
  | false =>
    rw [hp] at CI
    have HC := hid h
    clear h hp
    go_enter Tryz.func22, Tryz.ntmps22
    go_wp2_with (go_at_call 26; with_reducible refine (CI.out _).mono ?_; rintro e w1 ⟨rfl, rfl⟩)
    go_ret
    exact ⟨rfl, HC.out, Kp.refl _ _⟩
  | true =>
    rw [hp] at CI
    have HC := hid h
    have hpp : 0 ≤ n ∧ n < 262144 := by simpa [isP] using hp
    have HPP := hid hpp
    obtain ⟨k0, k1, k2, k3⟩ := h.cells
    have f0 := row_frz h.row 0
    clear h hp hpp
    go_enter Tryz.func22, Tryz.ntmps22
    go_wp2_with (go_at_call 26; with_reducible refine (CI.out _).mono ?_; rintro e w1 ⟨rfl, hw⟩; subst hw)
    go_ret
    refine ⟨rfl, ?_, Kp.set _ _ _ _⟩
    have h := HC.out
    refine ⟨heap_setCell_same _ B 0 _ _ _ h.row, h.l1.kept (Kp.set _ _ _ _) (fun g hg e => by obtain ⟨cu, hc⟩ := h.l1.ty hg; exact row_ne hc h.row (by decide) e), h.l2.kept (Kp.set _ _ _ _) (fun g hg e => by obtain ⟨cu, hc⟩ := h.l2.ty hg; exact row_ne hc h.row (by decide) e), h.s1, h.s2, h.ap, HPP.out.1, HPP.out.2, h.m0, h.m1, h.mb⟩
/-- the program's first, then the document's. -/
theorem Pp.dropped {w0 w U Y Q : World} {O : Nat → Prop} {X B : Nat} {r m : Int} {L : List It} {p1 : Option Addr} {c1 : Nat} {p2 : Option Addr} {c2 : Nat} {pL : Option Addr} {cL : Nat} (h : Pp w0 w O X B r m L p1 c1 p2 c2 pL cL) {r' : Int} {L' : List It} {p' : Option Addr} {c' : Nat}
    (hk : Kp (fun j => j = B ∨ OfP p1 j ∨ OfP p2 j) w U) (hcl : Cl U B r' m p1 c1 (iso 1 L') p2 c2 (iso 2 L')) (hb : Below U.heap.size U Y) (hli : Li Y p' c' L') (hlk : Lk L') (hfr : ∀ g, OfP p' g → OfP pL g ∨ w.heap.size ≤ g) (hXY : ∃ cs, Y.heap[X]? = some (.cells cs 31 (0, 0))) (hq : Kp (fun j => j = X) Y Q)
    (hrow : Q.heap[X]? = some (.cells #[.pointer (some ⟨B, 0, none⟩), .int .i64 r', .int .i64 m, .slice p' L'.length c'] 31 (0, 0))) : Nx w0 w Q O X := by
  obtain ⟨cs, hXY⟩ := hXY
  have hclY := hcl.on hb
  have nX : ∀ (g : Nat) (t : TypeId) (cs : Array Value), t ≠ 31 → Y.heap[g]? = some (.cells cs t (0, 0)) → g ≠ X := fun g t cs' ht hg e => by
    subst e; exact row_ne hg hXY ht rfl
  have hclQ : Cl Q B r' m p1 c1 (iso 1 L') p2 c2 (iso 2 L') := hclY.kept hq (nX B _ _ (by decide) hclY.row) (fun g hg => by
    rcases hg with hg | hg
    · obtain ⟨cu, hc⟩ := hclY.l1.ty hg; exact nX g _ _ (by decide) hc
    · obtain ⟨cu, hc⟩ := hclY.l2.ty hg; exact nX g _ _ (by decide) hc)
  have hliQ : Li Q p' c' L' := hli.kept hq (fun g hg => by obtain ⟨cu, hc⟩ := hli.ty hg; exact nX g _ _ (by decide) hc)
  refine h.done hrow hclQ hliQ hlk (fun g hg => .inl hg) hfr (fun g h1 h2 => ?_) ?_
  · rcases hfr g h2 with h3 | h3
    · exact h.ap g h1 h3
    · have := (h.og g (h.o1 g h1)).2; omega
  · exact ((hk.mono (C := fun g => g = X ∨ g = B ∨ OfP p1 g ∨ OfP p2 g) (fun g _ e => .inr e)).trans (Kp.of (fun g => g = X ∨ g = B ∨ OfP p1 g ∨ OfP p2 g) hb) (fun _ _ e => e)).trans (hq.mono (C := fun g => g = X ∨ g = B ∨ OfP p1 g ∨ OfP p2 g) (fun g _ e => .inl e)) (fun _ _ e => e)
end Go.Proofs.YtnmkfdndfhefiaaGreat
