/-
  The steps that change nothing.
-/
import Derived.Test.YtnmkfdndfhefiaaGreatPcA
namespace Go.Proofs.YtnmkfdndfhefiaaGreat
open Go.RowKit Go.Deep Go.Shelf
set_option linter.unusedVariables false
set_option linter.unusedSimpArgs false
set_option maxHeartbeats 16000000
set_option maxRecDepth 100000
attribute [local go_sem ↓] Go.wp_at_zero Go.wp_at_succ
theorem step2 {w0 w : World} {O : Nat → Prop} {X B : Nat} {r m : Int} {L : List It} {p1 : Option Addr} {c1 : Nat} {p2 : Option Addr} {c2 : Nat} {pL : Option Addr} {cL : Nat} (h : Pp w0 w O X B r m L p1 c1 p2 c2 pL cL) (ot : Bool) (x : It) (id n : Int) :
    Calls Tryz.prog 6 #[.pointer (some ⟨X, 0, none⟩), .agg #[.int .i64 2, .bool ot, .int .u64 x.id, .int .u32 x.mb, .int .i64 x.sd, .int .i64 x.ty, .int .i64 x.pr, .int .u64 x.qt, .int .u64 id, .int .i64 n]] w fun e w' => e = .returned (.bool true) ∧ Nx w0 w w' O X := by
  obtain ⟨R, hR⟩ : ∃ R, w.heap.size = R := ⟨_, rfl⟩
  obtain ⟨W, hW⟩ : ∃ W, w.alloc (.cells #[.int .i64 2, .bool ot, .int .u64 x.id, .int .u32 x.mb, .int .i64 x.sd, .int .i64 x.ty, .int .i64 x.pr, .int .u64 x.qt, .int .u64 id, .int .i64 n] 37) = W := ⟨_, rfl⟩
  have HBW := hid (show Below w.heap.size w W from by rw [← hW]; exact ball _ _)
  have HO := hid (show W.heap[R]? = some (.cells #[.int .i64 2, .bool ot, .int .u64 x.id, .int .u32 x.mb, .int .i64 x.sd, .int .i64 x.ty, .int .i64 x.pr, .int .u64 x.qt, .int .u64 id, .int .i64 n] 37 (0, 0)) from by rw [← hW, ← hR]; exact World.alloc_heap_new _ _)
  have HP0 := hid h
  have HP := hid (h.on HBW.out)
  obtain ⟨nL, hnL⟩ : ∃ k, L.length = k := ⟨_, rfl⟩
  have HNL := hid hnL
  have HXR := hid (show W.heap[X]? = some (.cells #[.pointer (some ⟨B, 0, none⟩), .int .i64 r, .int .i64 m, .slice pL nL cL] 31 (0, 0)) from by have := HP.out.row; rw [hnL] at this; exact this)
  have HW := hid hW
  have HRR := hid hR
  have CL := hid (listed_any HP.out n)
  have HOC := hid (show ∀ U, Below W.heap.size W U → U.cell? ⟨R, 0, none⟩ = some (.int .i64 2) ∧ U.cell? ⟨R, 9, none⟩ = some (.int .i64 n) from fun U hU => ⟨row_cell (row_on HO.out hU) 0, row_cell (row_on HO.out hU) 9⟩)
  clear h hW hR hnL
  go_enter Tryz.func6, Tryz.ntmps6
  go_upto_region 1 with fail
  rw [HW.out, HRR.out]
  have o0 : W.cell? ⟨R, 0, none⟩ = some (.int .i64 2) := row_cell HO.out 0
  have o9 : W.cell? ⟨R, 9, none⟩ = some (.int .i64 n) := row_cell HO.out 9
  go_wp2_with (go_at_call 7; with_reducible refine (CL.out).mono ?_; rintro e v1 ⟨rfl, hx⟩; have HN := hid hx; clear hx)
  go_ret
  exact ⟨rfl, HN.out.from HBW.out⟩
theorem step3 {w0 w : World} {O : Nat → Prop} {X B : Nat} {r m : Int} {L : List It} {p1 : Option Addr} {c1 : Nat} {p2 : Option Addr} {c2 : Nat} {pL : Option Addr} {cL : Nat} (h : Pp w0 w O X B r m L p1 c1 p2 c2 pL cL) (ot : Bool) (x : It) (id n : Int) :
    Calls Tryz.prog 6 #[.pointer (some ⟨X, 0, none⟩), .agg #[.int .i64 3, .bool ot, .int .u64 x.id, .int .u32 x.mb, .int .i64 x.sd, .int .i64 x.ty, .int .i64 x.pr, .int .u64 x.qt, .int .u64 id, .int .i64 n]] w fun e w' => e = .returned (.bool true) ∧ Nx w0 w w' O X := by
  obtain ⟨R, hR⟩ : ∃ R, w.heap.size = R := ⟨_, rfl⟩
  obtain ⟨W, hW⟩ : ∃ W, w.alloc (.cells #[.int .i64 3, .bool ot, .int .u64 x.id, .int .u32 x.mb, .int .i64 x.sd, .int .i64 x.ty, .int .i64 x.pr, .int .u64 x.qt, .int .u64 id, .int .i64 n] 37) = W := ⟨_, rfl⟩
  have HBW := hid (show Below w.heap.size w W from by rw [← hW]; exact ball _ _)
  have HO := hid (show W.heap[R]? = some (.cells #[.int .i64 3, .bool ot, .int .u64 x.id, .int .u32 x.mb, .int .i64 x.sd, .int .i64 x.ty, .int .i64 x.pr, .int .u64 x.qt, .int .u64 id, .int .i64 n] 37 (0, 0)) from by rw [← hW, ← hR]; exact World.alloc_heap_new _ _)
  have HP0 := hid h
  have HP := hid (h.on HBW.out)
  obtain ⟨nL, hnL⟩ : ∃ k, L.length = k := ⟨_, rfl⟩
  have HNL := hid hnL
  have HXR := hid (show W.heap[X]? = some (.cells #[.pointer (some ⟨B, 0, none⟩), .int .i64 r, .int .i64 m, .slice pL nL cL] 31 (0, 0)) from by have := HP.out.row; rw [hnL] at this; exact this)
  have HW := hid hW
  have HRR := hid hR
  have HX := hid (fun (U : World) (hU : Pp w0 U O X B r m L p1 c1 p2 c2 pL cL) => hU.cells hnL)
  have CL := hid (fun (U : World) (hU : Pp w0 U O X B r m L p1 c1 p2 c2 pL cL) => (show Calls Tryz.prog 14 #[.pointer (some ⟨B, 0, none⟩)] U fun e w' => e = .returned (.int .i64 nL) ∧ Hid (Below U.heap.size U w') ∧ Hid (Pp w0 w' O X B r m L p1 c1 p2 c2 pL cL) from by
    have e : ((iso 1 L).length : Int) + (iso 2 L).length = nL := by have := hU.lk.lens; omega
    have := len_any B r m p1 c1 (iso 1 L) p2 c2 (iso 2 L) U hU.cl
    rw [e] at this
    exact this.mono (fun e w' hh => by obtain ⟨h1, k, rfl⟩ := hh; exact ⟨h1, hid (bdrew _ _), hid (hU.on (bdrew _ _))⟩)))
  clear h hW hR hnL
  go_enter Tryz.func6, Tryz.ntmps6
  go_upto_region 1 with fail
  rw [HW.out, HRR.out]
  have o0 : W.cell? ⟨R, 0, none⟩ = some (.int .i64 3) := row_cell HO.out 0
  go_upto_region 14 with fail
  obtain ⟨k0, k1, k2, k3⟩ := HX.out W HP.out
  go_region_held3 (fun U => U.cell? ⟨X, 0, none⟩ = some (.pointer (some ⟨B, 0, none⟩)) ∧ U.cell? ⟨X, 1, none⟩ = some (.int .i64 r) ∧ U.cell? ⟨X, 2, none⟩ = some (.int .i64 m) ∧ U.cell? ⟨X, 3, none⟩ = some (.slice pL nL cL)) (go_keep) (first | (go_at_call 14; with_reducible refine (CL.out _ (HP.out.on (bdrew1 W))).mono ?_; rintro e v1 ⟨rfl, V1, HP1⟩; obtain ⟨k0, k1, k2, k3⟩ := HX.out v1 HP1.out))
  go_wp2
  go_ret
  exact ⟨rfl, HP0.out.same (btr HBW.out (btr (bdrew1 W) V1.out))⟩
theorem step4 {w0 w : World} {O : Nat → Prop} {X B : Nat} {r m : Int} {L : List It} {p1 : Option Addr} {c1 : Nat} {p2 : Option Addr} {c2 : Nat} {pL : Option Addr} {cL : Nat} (h : Pp w0 w O X B r m L p1 c1 p2 c2 pL cL) (ot : Bool) (x : It) (id n : Int) :
    Calls Tryz.prog 6 #[.pointer (some ⟨X, 0, none⟩), .agg #[.int .i64 4, .bool ot, .int .u64 x.id, .int .u32 x.mb, .int .i64 x.sd, .int .i64 x.ty, .int .i64 x.pr, .int .u64 x.qt, .int .u64 id, .int .i64 n]] w fun e w' => e = .returned (.bool true) ∧ Nx w0 w w' O X := by
  obtain ⟨R, hR⟩ : ∃ R, w.heap.size = R := ⟨_, rfl⟩
  obtain ⟨W, hW⟩ : ∃ W, w.alloc (.cells #[.int .i64 4, .bool ot, .int .u64 x.id, .int .u32 x.mb, .int .i64 x.sd, .int .i64 x.ty, .int .i64 x.pr, .int .u64 x.qt, .int .u64 id, .int .i64 n] 37) = W := ⟨_, rfl⟩
  have HBW := hid (show Below w.heap.size w W from by rw [← hW]; exact ball _ _)
  have HO := hid (show W.heap[R]? = some (.cells #[.int .i64 4, .bool ot, .int .u64 x.id, .int .u32 x.mb, .int .i64 x.sd, .int .i64 x.ty, .int .i64 x.pr, .int .u64 x.qt, .int .u64 id, .int .i64 n] 37 (0, 0)) from by rw [← hW, ← hR]; exact World.alloc_heap_new _ _)
  have HP0 := hid h
  have HP := hid (h.on HBW.out)
  obtain ⟨nL, hnL⟩ : ∃ k, L.length = k := ⟨_, rfl⟩
  have HNL := hid hnL
  have HXR := hid (show W.heap[X]? = some (.cells #[.pointer (some ⟨B, 0, none⟩), .int .i64 r, .int .i64 m, .slice pL nL cL] 31 (0, 0)) from by have := HP.out.row; rw [hnL] at this; exact this)
  have HW := hid hW
  have HRR := hid hR
  have HX := hid (fun (U : World) (hU : Pp w0 U O X B r m L p1 c1 p2 c2 pL cL) => hU.cells hnL)
  obtain ⟨a1, ha1⟩ : ∃ a, wd n (iso 1 L) = a := ⟨_, rfl⟩
  obtain ⟨a2, ha2⟩ : ∃ a, wd n (iso 2 L) = a := ⟨_, rfl⟩
  have CA := hid (fun (U : World) (hU : Pp w0 U O X B r m L p1 c1 p2 c2 pL cL) => (show Calls Tryz.prog 15 #[.pointer (some ⟨B, 0, none⟩), .int .i64 n] U fun e w' => e = .returned (.tuple #[.int .u64 a1, .int .u64 a2]) ∧ Hid (Below U.heap.size U w') ∧ Hid (Pp w0 w' O X B r m L p1 c1 p2 c2 pL cL) from by
    have := curve_any B r m n p1 c1 (iso 1 L) p2 c2 (iso 2 L) U hU.cl
    rw [ha1, ha2] at this
    exact this.mono (fun e w' hh => ⟨hh.1, hid hh.2, hid (hU.on hh.2)⟩)))
  have CB := hid (fun (U : World) (hU : Pp w0 U O X B r m L p1 c1 p2 c2 pL cL) => (show Calls Tryz.prog 16 #[.agg #[.int .i64 r, .int .i64 m, .slice pL nL cL], .int .i64 n] U fun e w' => e = .returned (.tuple #[.int .u64 a1, .int .u64 a2]) ∧ Hid (Below U.heap.size U w') ∧ Hid (Pp w0 w' O X B r m L p1 c1 p2 c2 pL cL) from by
    have := rcurve_same r m n pL cL L U hU.li hU.lk
    rw [ha1, ha2, hnL] at this
    exact this.mono (fun e w' hh => ⟨hh.1, hid hh.2, hid (hU.on hh.2)⟩)))
  clear ha1 ha2
  have HOC := hid (show ∀ U, Below W.heap.size W U → U.cell? ⟨R, 0, none⟩ = some (.int .i64 4) ∧ U.cell? ⟨R, 9, none⟩ = some (.int .i64 n) from fun U hU => ⟨row_cell (row_on HO.out hU) 0, row_cell (row_on HO.out hU) 9⟩)
  clear h hW hR hnL
  go_enter Tryz.func6, Tryz.ntmps6
  go_upto_region 1 with fail
  rw [HW.out, HRR.out]
  have o0 : W.cell? ⟨R, 0, none⟩ = some (.int .i64 4) := row_cell HO.out 0
  go_upto_region 16 with fail
  obtain ⟨k0, k1, k2, k3⟩ := HX.out W HP.out
  have o9 := (HOC.out W (Below.refl _ _)).2
  go_region_held3 (fun U => (U.cell? ⟨X, 0, none⟩ = some (.pointer (some ⟨B, 0, none⟩)) ∧ U.cell? ⟨X, 1, none⟩ = some (.int .i64 r) ∧ U.cell? ⟨X, 2, none⟩ = some (.int .i64 m) ∧ U.cell? ⟨X, 3, none⟩ = some (.slice pL nL cL)) ∧ U.cell? ⟨R, 0, none⟩ = some (.int .i64 4) ∧ U.cell? ⟨R, 9, none⟩ = some (.int .i64 n)) (go_keep) (first | (go_at_call 15; with_reducible refine (CA.out _ (HP.out.on (bdrew1 W))).mono ?_; rintro e v1 ⟨rfl, V1, HP1⟩; obtain ⟨k0, k1, k2, k3⟩ := HX.out v1 HP1.out; obtain ⟨o0, o9⟩ := HOC.out v1 (btr (bdrew1 W) V1.out)))
  go_upto_region 17 with fail
  go_region_held3 (fun U => (U.cell? ⟨X, 0, none⟩ = some (.pointer (some ⟨B, 0, none⟩)) ∧ U.cell? ⟨X, 1, none⟩ = some (.int .i64 r) ∧ U.cell? ⟨X, 2, none⟩ = some (.int .i64 m) ∧ U.cell? ⟨X, 3, none⟩ = some (.slice pL nL cL)) ∧ U.cell? ⟨R, 0, none⟩ = some (.int .i64 4) ∧ U.cell? ⟨R, 9, none⟩ = some (.int .i64 n)) (go_keep) (first | (go_at_call 16; with_reducible refine (CB.out _ (HP1.out.on (bdrew1 v1))).mono ?_; rintro e v2 ⟨rfl, V2, HP2⟩; obtain ⟨k0, k1, k2, k3⟩ := HX.out v2 HP2.out; obtain ⟨o0, o9⟩ := HOC.out v2 (btr (btr (bdrew1 W) V1.out) (btr (bdrew1 v1) V2.out))))
  go_wp2
  go_ret
  exact ⟨rfl, HP0.out.same (btr HBW.out (btr (btr (bdrew1 W) V1.out) (btr (bdrew1 v1) V2.out)))⟩
theorem step5 {w0 w : World} {O : Nat → Prop} {X B : Nat} {r m : Int} {L : List It} {p1 : Option Addr} {c1 : Nat} {p2 : Option Addr} {c2 : Nat} {pL : Option Addr} {cL : Nat} (h : Pp w0 w O X B r m L p1 c1 p2 c2 pL cL) (ot : Bool) (x : It) (id n : Int) :
    Calls Tryz.prog 6 #[.pointer (some ⟨X, 0, none⟩), .agg #[.int .i64 5, .bool ot, .int .u64 x.id, .int .u32 x.mb, .int .i64 x.sd, .int .i64 x.ty, .int .i64 x.pr, .int .u64 x.qt, .int .u64 id, .int .i64 n]] w fun e w' => e = .returned (.bool true) ∧ Nx w0 w w' O X := by
  obtain ⟨R, hR⟩ : ∃ R, w.heap.size = R := ⟨_, rfl⟩
  obtain ⟨W, hW⟩ : ∃ W, w.alloc (.cells #[.int .i64 5, .bool ot, .int .u64 x.id, .int .u32 x.mb, .int .i64 x.sd, .int .i64 x.ty, .int .i64 x.pr, .int .u64 x.qt, .int .u64 id, .int .i64 n] 37) = W := ⟨_, rfl⟩
  have HBW := hid (show Below w.heap.size w W from by rw [← hW]; exact ball _ _)
  have HO := hid (show W.heap[R]? = some (.cells #[.int .i64 5, .bool ot, .int .u64 x.id, .int .u32 x.mb, .int .i64 x.sd, .int .i64 x.ty, .int .i64 x.pr, .int .u64 x.qt, .int .u64 id, .int .i64 n] 37 (0, 0)) from by rw [← hW, ← hR]; exact World.alloc_heap_new _ _)
  have HP0 := hid h
  have HP := hid (h.on HBW.out)
  obtain ⟨nL, hnL⟩ : ∃ k, L.length = k := ⟨_, rfl⟩
  have HNL := hid hnL
  have HXR := hid (show W.heap[X]? = some (.cells #[.pointer (some ⟨B, 0, none⟩), .int .i64 r, .int .i64 m, .slice pL nL cL] 31 (0, 0)) from by have := HP.out.row; rw [hnL] at this; exact this)
  have HW := hid hW
  have HRR := hid hR
  have HX := hid (fun (U : World) (hU : Pp w0 U O X B r m L p1 c1 p2 c2 pL cL) => hU.cells hnL)
  obtain ⟨z, hz⟩ : ∃ a, uqt r L = a := ⟨_, rfl⟩
  obtain ⟨b, hb⟩ : ∃ a, (quo r (iso 1 L) (iso 2 L)).isSome = a := ⟨_, rfl⟩
  have CA := hid (fun (U : World) (hU : Pp w0 U O X B r m L p1 c1 p2 c2 pL cL) => (show Calls Tryz.prog 17 #[.pointer (some ⟨B, 0, none⟩)] U fun e w' => e = .returned (.tuple #[.agg #[.int .i64 z.pr, .int .u64 z.vo, .int .u64 z.su, .int .i64 z.sd, .int .i64 z.ru], .bool b]) ∧ Hid (Below U.heap.size U w') ∧ Hid (Pp w0 w' O X B r m L p1 c1 p2 c2 pL cL) from by
    have := quote_any B r m p1 c1 (iso 1 L) p2 c2 (iso 2 L) U hU.cl
    rw [hb, show (quo r (iso 1 L) (iso 2 L)).getD q0 = z from hz] at this
    exact this.mono (fun e w' hh => ⟨hh.1, hid hh.2, hid (hU.on hh.2)⟩)))
  have CB := hid (fun (U : World) (hU : Pp w0 U O X B r m L p1 c1 p2 c2 pL cL) => (show Calls Tryz.prog 18 #[.agg #[.int .i64 r, .int .i64 m, .slice pL nL cL]] U fun e w' => e = .returned (.tuple #[.agg #[.int .i64 z.pr, .int .u64 z.vo, .int .u64 z.su, .int .i64 z.sd, .int .i64 z.ru], .bool b]) ∧ Hid (Below U.heap.size U w') ∧ Hid (Pp w0 w' O X B r m L p1 c1 p2 c2 pL cL) from by
    have := rquote_same r m pL cL L U hU.li hU.lk hU.isP
    rw [hb, hz, hnL] at this
    exact this.mono (fun e w' hh => ⟨hh.1, hid hh.2, hid (hU.on hh.2)⟩)))
  have q : ∀ U, (Op.equalIn 10000 57 (.agg #[.int .i64 z.pr, .int .u64 z.vo, .int .u64 z.su, .int .i64 z.sd, .int .i64 z.ru]) (.agg #[.int .i64 z.pr, .int .u64 z.vo, .int .u64 z.su, .int .i64 z.sd, .int .i64 z.ru])).run Tryz.prog U = .ok true U := fun U => by rw [eqQ]; simp
  clear hz hb
  clear h hW hR hnL
  go_enter Tryz.func6, Tryz.ntmps6
  go_upto_region 1 with fail
  rw [HW.out, HRR.out]
  have o0 : W.cell? ⟨R, 0, none⟩ = some (.int .i64 5) := row_cell HO.out 0
  obtain ⟨k0, k1, k2, k3⟩ := HX.out W HP.out
  go_upto_region 21 with (go_at_call 17; with_reducible refine (CA.out _ HP.out).mono ?_; rintro e v1 ⟨rfl, V1, HP1⟩)
  obtain ⟨Y, hY⟩ : ∃ Y, v1.alloc (.cells #[.int .i64 z.pr, .int .u64 z.vo, .int .u64 z.su, .int .i64 z.sd, .int .i64 z.ru] 57) = Y := ⟨_, rfl⟩
  obtain ⟨g, hg⟩ : ∃ g, v1.heap.size = g := ⟨_, rfl⟩
  have HG := hid (show Y.heap[g]? = some (.cells #[.int .i64 z.pr, .int .u64 z.vo, .int .u64 z.su, .int .i64 z.sd, .int .i64 z.ru] 57 (0, 0)) from by rw [← hY, ← hg]; exact World.alloc_heap_new _ _)
  have BY := hid (show Below v1.heap.size v1 Y from by rw [← hY]; exact ball _ _)
  have HPY := hid (HP1.out.on BY.out)
  rw [hY, hg]
  clear hY hg k0 k1 k2 k3
  obtain ⟨k0, k1, k2, k3⟩ := HX.out Y HPY.out
  go_upto_region 22 with (go_at_call 18; with_reducible refine (CB.out _ HPY.out).mono ?_; rintro e v2 ⟨rfl, V2, HP2⟩)
  obtain ⟨a0, a1, a2, a3, a4⟩ := row5 (row_on HG.out V2.out)
  have sg := row_lt (row_on HG.out V2.out)
  go_wp2
  go_ret
  exact ⟨rfl, HP0.out.same (btr HBW.out (btr V1.out (btr BY.out (btr V2.out (ball _ _)))))⟩
end Go.Proofs.YtnmkfdndfhefiaaGreat
