/-
  Edges.
-/
import Derived.Test.YtjgjoohdocjpkaaDoorZi
namespace Go.Proofs.YtjgjoohdocjpkaaDoor.Msg
open Go.RowKit Go.Maps Go.Deep Go.Lib
set_option linter.unusedVariables false
set_option linter.unusedSimpArgs false
structure Com where
  kd : Int
  id : Int
  tg : Int
  me : Int
  si : Int
  ty : Int
  pr : Int
  qt : Int
  pe : Int
def Com.v (c : Com) : Array Value := #[.int .i64 c.kd, .int .u64 c.id, .int .u64 c.tg, .int .u32 c.me, .int .i64 c.si, .int .i64 c.ty, .int .i64 c.pr, .int .u64 c.qt, .int .u64 c.pe]
structure Com.Ok (c : Com) : Prop where
  id : Wd c.id
  tg : Wd c.tg
  me : 0 ≤ c.me ∧ c.me < 4294967296
  si : -9223372036854775808 ≤ c.si ∧ c.si ≤ 9223372036854775807
  ty : -9223372036854775808 ≤ c.ty ∧ c.ty ≤ 9223372036854775807
  pr : -9223372036854775808 ≤ c.pr ∧ c.pr ≤ 9223372036854775807
  qt : Wd c.qt
  pe : Wd c.pe
def Com.x (c : Com) (si ty pr : Int) : Inp := ⟨1, 1, c.id, 0, c.me, si, ty, pr, c.qt, c.pe, 0⟩
theorem Com.x_ok (c : Com) (h : c.Ok) (si ty pr : Int) : (c.x si ty pr).Ok := ⟨h.id, by simp [Com.x, Wd], h.me, h.qt, h.pe⟩
set_option maxHeartbeats 1000000 in
theorem edge_e (c : Com) (h : c.Ok) (si ty pr : Int) (hs : -9223372036854775808 ≤ si ∧ si ≤ 9223372036854775807) (ht : -9223372036854775808 ≤ ty ∧ ty ≤ 9223372036854775807) (hp : -9223372036854775808 ≤ pr ∧ pr ≤ 9223372036854775807) :
    (c.x si ty pr).e = if (0 ≤ si ∧ si ≤ 255) ∧ (0 ≤ ty ∧ ty ≤ 255) ∧ (0 ≤ pr ∧ pr ≤ 4294967295) then 0 else 40 := by
  have hk : (c.x si ty pr).k = 1 := by simp [Inp.k, Com.x]
  obtain ⟨⟨i0, i1⟩, _, ⟨m0, m1⟩, _, _, _, ⟨q0, q1⟩, ⟨p0, p1⟩⟩ := h
  have f11 : (c.x si ty pr).f 11 = c.id := by simp [Inp.f, inF, upd, Com.x]
  have f1 : (c.x si ty pr).f 1 = c.me := by simp [Inp.f, inF, upd, Com.x]
  have f54 : (c.x si ty pr).f 54 = u64 si := by simp [Inp.f, inF, upd, Com.x]
  have f40 : (c.x si ty pr).f 40 = u64 ty := by simp [Inp.f, inF, upd, Com.x]
  have f44 : (c.x si ty pr).f 44 = u64 pr := by simp [Inp.f, inF, upd, Com.x]
  have f38 : (c.x si ty pr).f 38 = c.qt := by simp [Inp.f, inF, upd, Com.x]
  have f210 : (c.x si ty pr).f 210 = c.pe := by simp [Inp.f, inF, upd, Com.x]
  have hl : (iL 1 (only (tagsL 1) (c.x si ty pr).f) == (c.x si ty pr).l) = true := by
    rw [beq_iff_eq]
    simp only [iL, only, tagsL, if_true, reduceIte, Int.reduceEq, if_false, List.mem_cons, List.not_mem_nil, or_false, or_true, true_or, false_or, f11, f1, f54, f40, f44, f38, f210]
    simp only [Inp.l, Com.x, List.cons.injEq, and_true, true_and]
    simp only [u32, s64, wrap64, u64]
    omega
  have hb : inB (tagsL 1) (c.x si ty pr).f = decide ((0 ≤ si ∧ si ≤ 255) ∧ (0 ≤ ty ∧ ty ≤ 255) ∧ (0 ≤ pr ∧ pr ≤ 4294967295)) := by
    rw [Bool.eq_iff_iff]
    simp only [inB, tagsL, if_true, reduceIte, List.all_cons, List.all_nil, Bool.and_true, Bool.and_eq_true, decide_eq_true_eq, f11, f1, f54, f40, f44, f38, f210, bnd, Int.reduceEq, if_false]
    simp only [u64]
    omega
  unfold Inp.e Inp.told Inp.F
  rw [hk, hb, hl, if_neg (by decide), Bool.and_true]
  by_cases hc : (0 ≤ si ∧ si ≤ 255) ∧ (0 ≤ ty ∧ ty ≤ 255) ∧ (0 ≤ pr ∧ pr ≤ 4294967295)
  · rw [decide_eq_true hc, if_pos hc]; rfl
  · rw [decide_eq_false hc, if_neg hc]; rfl
theorem cells_C {w : World} {g : Nat} {x0 x1 x2 x3 x4 x5 x6 x7 x8 : Int} (h : w.heap[g]? = some (.cells #[.int .i64 x0, .int .u64 x1, .int .u64 x2, .int .u32 x3, .int .i64 x4, .int .i64 x5, .int .i64 x6, .int .u64 x7, .int .u64 x8] 25 (0, 0))) : w.cell? ⟨g, 0, none⟩ = some (.int .i64 x0) ∧ w.cell? ⟨g, 1, none⟩ = some (.int .u64 x1) ∧ w.cell? ⟨g, 2, none⟩ = some (.int .u64 x2) ∧ w.cell? ⟨g, 3, none⟩ = some (.int .u32 x3) ∧ w.cell? ⟨g, 4, none⟩ = some (.int .i64 x4) ∧ w.cell? ⟨g, 5, none⟩ = some (.int .i64 x5) ∧ w.cell? ⟨g, 6, none⟩ = some (.int .i64 x6) ∧ w.cell? ⟨g, 7, none⟩ = some (.int .u64 x7) ∧ w.cell? ⟨g, 8, none⟩ = some (.int .u64 x8) :=
  ⟨row_cell h 0, row_cell h 1, row_cell h 2, row_cell h 3, row_cell h 4, row_cell h 5, row_cell h 6, row_cell h 7, row_cell h 8⟩
theorem row_two {w : World} {g : Nat} {x0 x1 x2 x3 x4 x5 x6 x7 x8 : Int} (h : w.heap[g]? = some (.cells #[.int .i64 x0, .int .u64 x1, .int .u64 x2, .int .u32 x3, .int .i64 x4, .int .i64 x5, .int .i64 x6, .int .u64 x7, .int .u64 x8] 25 (0, 0))) :
    ((w.setCell ⟨g, 0, none⟩ (.int .i64 1)).setCell ⟨g, 2, none⟩ (.int .u64 0)).heap[g]? = some (.cells #[.int .i64 1, .int .u64 x1, .int .u64 0, .int .u32 x3, .int .i64 x4, .int .i64 x5, .int .i64 x6, .int .u64 x7, .int .u64 x8] 25 (0, 0)) := by
  have h1 := Go.heap_setCell_same w g 0 _ 25 (.int .i64 1) h
  have h2 := Go.heap_setCell_same _ g 2 _ 25 (.int .u64 0) h1
  exact h2
theorem at_any (x0 x1 x2 x3 x4 x5 x6 x7 x8 f n : Int) (r : Int) (hr : f.tmod 3 = r) (h3 : r = 0 ∨ r = 1 ∨ r = 2) (w : World) : Calls Tryd.prog 22 #[.agg #[.int .i64 x0, .int .u64 x1, .int .u64 x2, .int .u32 x3, .int .i64 x4, .int .i64 x5, .int .i64 x6, .int .u64 x7, .int .u64 x8], .int .i64 f, .int .i64 n] w fun e w' => e = .returned (.agg (if r = 0 then #[.int .i64 x0, .int .u64 x1, .int .u64 x2, .int .u32 x3, .int .i64 n, .int .i64 x5, .int .i64 x6, .int .u64 x7, .int .u64 x8] else if r = 1 then #[.int .i64 x0, .int .u64 x1, .int .u64 x2, .int .u32 x3, .int .i64 x4, .int .i64 n, .int .i64 x6, .int .u64 x7, .int .u64 x8] else #[.int .i64 x0, .int .u64 x1, .int .u64 x2, .int .u32 x3, .int .i64 x4, .int .i64 x5, .int .i64 n, .int .u64 x7, .int .u64 x8])) ∧ Below w.heap.size w w' := by
  rcases h3 with rfl | rfl | rfl
  · go_enter Tryd.func22, Tryd.ntmps22
    go_wp2
    exact bodyPost_ret (results_cell_row (fn := Tryd.f22) Tryd.results22 _ _ (w.heap.size + 1) 25 #[.int .i64 x0, .int .u64 x1, .int .u64 x2, .int .u32 x3, .int .i64 n, .int .i64 x5, .int .i64 x6, .int .u64 x7, .int .u64 x8] (0, 0) _ (by rfl) (heap2 _ _ _) Tryd.underlying25 rfl info25) rfl ⟨rfl, btr (ball _ _) (ball _ _)⟩
  · go_enter Tryd.func22, Tryd.ntmps22
    go_wp2
    exact bodyPost_ret (results_cell_row (fn := Tryd.f22) Tryd.results22 _ _ (w.heap.size + 1) 25 #[.int .i64 x0, .int .u64 x1, .int .u64 x2, .int .u32 x3, .int .i64 x4, .int .i64 n, .int .i64 x6, .int .u64 x7, .int .u64 x8] (0, 0) _ (by rfl) (heap2 _ _ _) Tryd.underlying25 rfl info25) rfl ⟨rfl, btr (ball _ _) (ball _ _)⟩
  · go_enter Tryd.func22, Tryd.ntmps22
    go_wp2
    exact bodyPost_ret (results_cell_row (fn := Tryd.f22) Tryd.results22 _ _ (w.heap.size + 1) 25 #[.int .i64 x0, .int .u64 x1, .int .u64 x2, .int .u32 x3, .int .i64 x4, .int .i64 x5, .int .i64 n, .int .u64 x7, .int .u64 x8] (0, 0) _ (by rfl) (heap2 _ _ _) Tryd.underlying25 rfl info25) rfl ⟨rfl, btr (ball _ _) (ball _ _)⟩

set_option maxHeartbeats 16000000 in
set_option maxRecDepth 100000 in
theorem edges_0 (c : Com) (hc : c.Ok) (f : Int) (hf0 : 0 ≤ f) (hr : f % 3 = 0) (w : World) (hM : LayM w) : Calls Tryd.prog 7 #[.agg c.v, .int .i64 f] w fun e w' => e = .returned (.bool true) ∧ Below w.heap.size w w' := by
  have HM := hid hM
  have LV := hid (fun w hM => lives_any w hM)
  have htm : f.tmod 3 = 0 := by rw [Int.tmod_eq_emod_of_nonneg hf0]; exact hr
  have hfn : ¬ (f < 0) := by omega
  have hfd : decide (f < 0) = false := by simpa using hfn
  have P0 := hid (fun w => pack_any (c.x c.si c.ty c.pr) (c.x_ok hc _ _ _) w)
  have P1 := hid (fun w => pack_any (c.x (255) (c.ty) (c.pr)) (c.x_ok hc _ _ _) w)
  have P2 := hid (fun w => pack_any (c.x (256) (c.ty) (c.pr)) (c.x_ok hc _ _ _) w)
  have L3 := hid (fun w hL => lineI_any (c.x (-1) (c.ty) (c.pr)) (c.x_ok hc _ _ _) w hL)
  have BK := hid (frame_back (c.x (255) (c.ty) (c.pr)) (c.x_ok hc _ _ _))
  have e0 := edge_e c hc c.si c.ty c.pr hc.si hc.ty hc.pr
  have e1 := edge_e c hc (255) (c.ty) (c.pr) (by decide) hc.ty hc.pr
  have e2 := edge_e c hc (256) (c.ty) (c.pr) (by decide) hc.ty hc.pr
  have e3 := edge_e c hc (-1) (c.ty) (c.pr) (by decide) hc.ty hc.pr
  have A1 := hid (fun w => at_any 1 c.id 0 c.me c.si c.ty c.pr c.qt c.pe f 255 0 htm (by omega) w)
  have A2 := hid (fun w => at_any 1 c.id 0 c.me c.si c.ty c.pr c.qt c.pe f 256 0 htm (by omega) w)
  have A3 := hid (fun w => at_any 1 c.id 0 c.me c.si c.ty c.pr c.qt c.pe f (-1) 0 htm (by omega) w)
  simp only [Int.reduceEq, if_true, if_false, reduceIte] at A1 A2 A3
  have RC0 := hid (heap_alloc_new w (.cells c.v 25))
  have HB0 := hid (ball w (.cells c.v 25))
  unfold Com.v at *
  obtain ⟨u0, u1, u2, u3, u4, u5, u6, hU⟩ := list7 (pw_len (c.x c.si c.ty c.pr))
  obtain ⟨K0, hK0⟩ : ∃ z, (c.x c.si c.ty c.pr).pk = z := ⟨_, rfl⟩
  obtain ⟨E0, hE0⟩ : ∃ z, (c.x c.si c.ty c.pr).e = z := ⟨_, rfl⟩
  rw [hU, hK0, hE0] at P0
  rw [hE0] at e0
  have H0 := hid e0
  have H1 := hid e1
  have H2 := hid e2
  have H3 := hid e3
  clear hU hK0 hE0 e0 e1 e2 e3
  have hf0v : frV K0 [u0, u1, u2, u3, u4, u5, u6] = #[.int .u8 K0, .int .u64 u0, .int .u64 u1, .int .u64 u2, .int .u64 u3, .int .u64 u4, .int .u64 u5, .int .u64 u6] := rfl
  rw [hf0v] at P0
  clear hf0v
  have x0v : (c.x c.si c.ty c.pr).v = #[.int .i64 1, .int .i64 1, .int .u64 c.id, .int .u64 0, .int .u32 c.me, .int .i64 c.si, .int .i64 c.ty, .int .i64 c.pr, .int .u64 c.qt, .int .u64 c.pe, .int .i64 0] := rfl
  rw [x0v] at P0
  clear x0v
  go_enter Tryd.func7, Tryd.ntmps7
  go_wp2_with (first | (go_at_call 13; refine (LV.out _ (HM.out.on HB0.out)).mono ?_; rintro e w1 ⟨rfl, hb⟩; have RC_1 := hid (row_on RC0.out hb); have HB_1 := hid (btr HB0.out hb); clear hb; refine Hid.out ?_))
  clear RC0 HB0
  obtain ⟨z1_0, z1_1, z1_2, z1_3, z1_4, z1_5, z1_6, z1_7, z1_8⟩ := cells_C RC_1.out
  have fz0 := frozen_of_row w1 w.heap.size 0 _ 25 RC_1.out
  have fz2 := frozen_of_row w1 w.heap.size 2 _ 25 RC_1.out
  have RD := hid (row_two RC_1.out)
  have HBD := hid (Below.setCell (Below.setCell HB_1.out (p := ⟨w.heap.size, 0, none⟩) (Nat.le_refl _) (.int .i64 1)) (p := ⟨w.heap.size, 2, none⟩) (Nat.le_refl _) (.int .u64 0))
  clear RC_1 HB_1
  refine hid ?_
  go_wp2_with (first | (go_at_call 14; refine (P0.out _).mono ?_; rintro e w2 ⟨rfl, hb⟩; have RC_2 := hid (row_on RD.out hb); have HB_2 := hid (btr HBD.out hb); clear hb; refine Hid.out ?_))
  clear RD HBD
  clear z1_0 z1_1 z1_2 z1_3 z1_4 z1_5 z1_6 z1_7 z1_8
  clear fz0 fz2 P0
  by_cases hE : E0 = 0
  · subst hE
    have e0 := H0.out
    have e1 := H1.out
    have e2 := H2.out
    have e3 := H3.out
    clear H0 H1 H2 H3
    have hin : (0 ≤ c.si ∧ c.si ≤ 255) ∧ (0 ≤ c.ty ∧ c.ty ≤ 255) ∧ (0 ≤ c.pr ∧ c.pr ≤ 4294967295) := by
      by_cases h : (0 ≤ c.si ∧ c.si ≤ 255) ∧ (0 ≤ c.ty ∧ c.ty ≤ 255) ∧ (0 ≤ c.pr ∧ c.pr ≤ 4294967295)
      · exact h
      · rw [if_neg h] at e0; omega
    rw [if_pos (by omega)] at e1
    rw [if_neg (by omega)] at e2
    rw [if_neg (by omega)] at e3
    clear e0 hin
    obtain ⟨b1, b2⟩ := BK.out e1
    have wa := pw_wd (c.x (255) (c.ty) (c.pr))
    obtain ⟨ka, kb⟩ := pk_rg (c.x (255) (c.ty) (c.pr))
    obtain ⟨a0, a1, a2, a3, a4, a5, a6, hA⟩ := list7 (pw_len (c.x (255) (c.ty) (c.pr)))
    obtain ⟨v0, v1, v2, v3, v4, v5, v6, hV⟩ := list7 (pw_len (c.x (256) (c.ty) (c.pr)))
    obtain ⟨K1, hK1⟩ : ∃ z, (c.x (255) (c.ty) (c.pr)).pk = z := ⟨_, rfl⟩
    obtain ⟨K2, hK2⟩ : ∃ z, (c.x (256) (c.ty) (c.pr)).pk = z := ⟨_, rfl⟩
    rw [hA, hK1, e1] at P1
    rw [hV, hK2, e2] at P2
    rw [e3] at L3
    rw [hA, hK1] at b1 b2
    rw [hA] at wa
    rw [hK1] at ka kb
    have U1 := hid (fun w => unpack_any K1 a0 a1 a2 a3 a4 a5 a6 ka kb wa w)
    rw [b1, b2] at U1
    have g1 : frV K1 [a0, a1, a2, a3, a4, a5, a6] = #[.int .u8 K1, .int .u64 a0, .int .u64 a1, .int .u64 a2, .int .u64 a3, .int .u64 a4, .int .u64 a5, .int .u64 a6] := rfl
    have g2 : frV K2 [v0, v1, v2, v3, v4, v5, v6] = #[.int .u8 K2, .int .u64 v0, .int .u64 v1, .int .u64 v2, .int .u64 v3, .int .u64 v4, .int .u64 v5, .int .u64 v6] := rfl
    have x1v : (c.x (255) (c.ty) (c.pr)).v = #[.int .i64 1, .int .i64 1, .int .u64 c.id, .int .u64 0, .int .u32 c.me, .int .i64 255, .int .i64 c.ty, .int .i64 c.pr, .int .u64 c.qt, .int .u64 c.pe, .int .i64 0] := rfl
    have x2v : (c.x (256) (c.ty) (c.pr)).v = #[.int .i64 1, .int .i64 1, .int .u64 c.id, .int .u64 0, .int .u32 c.me, .int .i64 256, .int .i64 c.ty, .int .i64 c.pr, .int .u64 c.qt, .int .u64 c.pe, .int .i64 0] := rfl
    have x3v : (c.x (-1) (c.ty) (c.pr)).v = #[.int .i64 1, .int .i64 1, .int .u64 c.id, .int .u64 0, .int .u32 c.me, .int .i64 (-1), .int .i64 c.ty, .int .i64 c.pr, .int .u64 c.qt, .int .u64 c.pe, .int .i64 0] := rfl
    rw [g1, x1v] at P1 U1
    rw [g2, x2v] at P2
    rw [x3v] at L3
    have q1 := eqI_yes (1) (1) (c.id) (0) (c.me) (255) (c.ty) (c.pr) (c.qt) (c.pe) (0) (1) (1) (c.id) (0) (c.me) (255) (c.ty) (c.pr) (c.qt) (c.pe) (0) rfl
    unfold iV at q1
    clear g1 g2 x1v x2v x3v hA hV hK1 hK2 b1 b2 wa ka kb e1 e2 e3 BK hc
    have RC_a1 := hid (row_on RC_2.out (ball w2 (.cells (#[.int .u8 K0, .int .u64 u0, .int .u64 u1, .int .u64 u2, .int .u64 u3, .int .u64 u4, .int .u64 u5, .int .u64 u6]) 40)))
    have RG_a1 := hid (heap_alloc_new w2 (.cells (#[.int .u8 K0, .int .u64 u0, .int .u64 u1, .int .u64 u2, .int .u64 u3, .int .u64 u4, .int .u64 u5, .int .u64 u6]) 40))
    have HB_a1 := hid (btr HB_2.out (ball w2 (.cells (#[.int .u8 K0, .int .u64 u0, .int .u64 u1, .int .u64 u2, .int .u64 u3, .int .u64 u4, .int .u64 u5, .int .u64 u6]) 40)))
    clear RC_2 HB_2
    obtain ⟨z2_0, z2_1, z2_2, z2_3, z2_4, z2_5, z2_6, z2_7, z2_8⟩ := cells_C RC_a1.out
    refine hid ?_
    go_wp2_with (first | (go_at_call 22; refine (A1.out _).mono ?_; rintro e w3 ⟨rfl, hb⟩; have RC_3 := hid (row_on RC_a1.out hb); have RG_3 := hid (row_on RG_a1.out hb); have HB_3 := hid (btr HB_a1.out hb); clear hb; refine Hid.out ?_))
    clear RC_a1 RG_a1 HB_a1
    clear z2_0 z2_1 z2_2 z2_3 z2_4 z2_5 z2_6 z2_7 z2_8
    have RC_a2 := hid (row_on RC_3.out (ball w3 (.cells (#[.int .i64 1, .int .i64 1, .int .u64 c.id, .int .u64 0, .int .u32 c.me, .int .i64 255, .int .i64 c.ty, .int .i64 c.pr, .int .u64 c.qt, .int .u64 c.pe, .int .i64 0]) 27)))
    have RG_a2 := hid (row_on RG_3.out (ball w3 (.cells (#[.int .i64 1, .int .i64 1, .int .u64 c.id, .int .u64 0, .int .u32 c.me, .int .i64 255, .int .i64 c.ty, .int .i64 c.pr, .int .u64 c.qt, .int .u64 c.pe, .int .i64 0]) 27)))
    have RT_a2 := hid (heap_alloc_new w3 (.cells (#[.int .i64 1, .int .i64 1, .int .u64 c.id, .int .u64 0, .int .u32 c.me, .int .i64 255, .int .i64 c.ty, .int .i64 c.pr, .int .u64 c.qt, .int .u64 c.pe, .int .i64 0]) 27))
    have HB_a2 := hid (btr HB_3.out (ball w3 (.cells (#[.int .i64 1, .int .i64 1, .int .u64 c.id, .int .u64 0, .int .u32 c.me, .int .i64 255, .int .i64 c.ty, .int .i64 c.pr, .int .u64 c.qt, .int .u64 c.pe, .int .i64 0]) 27)))
    clear RC_3 RG_3 HB_3
    obtain ⟨z3_0, z3_1, z3_2, z3_3, z3_4, z3_5, z3_6, z3_7, z3_8, z3_9, z3_10⟩ := cells_I RT_a2.out
    refine hid ?_
    go_wp2_with (first | (go_at_call 14; refine (P1.out _).mono ?_; rintro e w4 ⟨rfl, hb⟩; have RC_4 := hid (row_on RC_a2.out hb); have RG_4 := hid (row_on RG_a2.out hb); have RT_4 := hid (row_on RT_a2.out hb); have HB_4 := hid (btr HB_a2.out hb); clear hb; refine Hid.out ?_))
    clear RC_a2 RG_a2 RT_a2 HB_a2
    clear z3_0 z3_1 z3_2 z3_3 z3_4 z3_5 z3_6 z3_7 z3_8 z3_9 z3_10
    have RC_a3 := hid (row_on RC_4.out (ball w4 (.cells (#[.int .u8 K1, .int .u64 a0, .int .u64 a1, .int .u64 a2, .int .u64 a3, .int .u64 a4, .int .u64 a5, .int .u64 a6]) 40)))
    have RG_a3 := hid (row_on RG_4.out (ball w4 (.cells (#[.int .u8 K1, .int .u64 a0, .int .u64 a1, .int .u64 a2, .int .u64 a3, .int .u64 a4, .int .u64 a5, .int .u64 a6]) 40)))
    have RT_a3 := hid (row_on RT_4.out (ball w4 (.cells (#[.int .u8 K1, .int .u64 a0, .int .u64 a1, .int .u64 a2, .int .u64 a3, .int .u64 a4, .int .u64 a5, .int .u64 a6]) 40)))
    have RF_a3 := hid (heap_alloc_new w4 (.cells (#[.int .u8 K1, .int .u64 a0, .int .u64 a1, .int .u64 a2, .int .u64 a3, .int .u64 a4, .int .u64 a5, .int .u64 a6]) 40))
    have HB_a3 := hid (btr HB_4.out (ball w4 (.cells (#[.int .u8 K1, .int .u64 a0, .int .u64 a1, .int .u64 a2, .int .u64 a3, .int .u64 a4, .int .u64 a5, .int .u64 a6]) 40)))
    clear RC_4 RG_4 RT_4 HB_4
    obtain ⟨z4_0, z4_1, z4_2, z4_3, z4_4, z4_5, z4_6, z4_7⟩ := cells_F (k := K1) (a0 := a0) (a1 := a1) (a2 := a2) (a3 := a3) (a4 := a4) (a5 := a5) (a6 := a6) RF_a3.out
    refine hid ?_
    go_wp2_with (first | (go_at_call 16; refine (U1.out _).mono ?_; rintro e w5 ⟨rfl, hb⟩; have RC_5 := hid (row_on RC_a3.out hb); have RG_5 := hid (row_on RG_a3.out hb); have RT_5 := hid (row_on RT_a3.out hb); have RF_5 := hid (row_on RF_a3.out hb); have HB_5 := hid (btr HB_a3.out hb); clear hb; refine Hid.out ?_))
    clear RC_a3 RG_a3 RT_a3 RF_a3 HB_a3
    clear z4_0 z4_1 z4_2 z4_3 z4_4 z4_5 z4_6 z4_7
    have RC_a4 := hid (row_on RC_5.out (ball w5 (.cells (#[.int .i64 1, .int .i64 1, .int .u64 c.id, .int .u64 0, .int .u32 c.me, .int .i64 255, .int .i64 c.ty, .int .i64 c.pr, .int .u64 c.qt, .int .u64 c.pe, .int .i64 0]) 27)))
    have RG_a4 := hid (row_on RG_5.out (ball w5 (.cells (#[.int .i64 1, .int .i64 1, .int .u64 c.id, .int .u64 0, .int .u32 c.me, .int .i64 255, .int .i64 c.ty, .int .i64 c.pr, .int .u64 c.qt, .int .u64 c.pe, .int .i64 0]) 27)))
    have RT_a4 := hid (row_on RT_5.out (ball w5 (.cells (#[.int .i64 1, .int .i64 1, .int .u64 c.id, .int .u64 0, .int .u32 c.me, .int .i64 255, .int .i64 c.ty, .int .i64 c.pr, .int .u64 c.qt, .int .u64 c.pe, .int .i64 0]) 27)))
    have RF_a4 := hid (row_on RF_5.out (ball w5 (.cells (#[.int .i64 1, .int .i64 1, .int .u64 c.id, .int .u64 0, .int .u32 c.me, .int .i64 255, .int .i64 c.ty, .int .i64 c.pr, .int .u64 c.qt, .int .u64 c.pe, .int .i64 0]) 27)))
    have RB_a4 := hid (heap_alloc_new w5 (.cells (#[.int .i64 1, .int .i64 1, .int .u64 c.id, .int .u64 0, .int .u32 c.me, .int .i64 255, .int .i64 c.ty, .int .i64 c.pr, .int .u64 c.qt, .int .u64 c.pe, .int .i64 0]) 27))
    have HB_a4 := hid (btr HB_5.out (ball w5 (.cells (#[.int .i64 1, .int .i64 1, .int .u64 c.id, .int .u64 0, .int .u32 c.me, .int .i64 255, .int .i64 c.ty, .int .i64 c.pr, .int .u64 c.qt, .int .u64 c.pe, .int .i64 0]) 27)))
    clear RC_5 RG_5 RT_5 RF_5 HB_5
    obtain ⟨z5_0, z5_1, z5_2, z5_3, z5_4, z5_5, z5_6, z5_7, z5_8⟩ := cells_C RC_a4.out
    refine hid ?_
    go_wp2_with (first | (go_at_call 22; refine (A2.out _).mono ?_; rintro e w6 ⟨rfl, hb⟩; have RC_6 := hid (row_on RC_a4.out hb); have RG_6 := hid (row_on RG_a4.out hb); have RT_6 := hid (row_on RT_a4.out hb); have RF_6 := hid (row_on RF_a4.out hb); have RB_6 := hid (row_on RB_a4.out hb); have HB_6 := hid (btr HB_a4.out hb); clear hb; refine Hid.out ?_))
    clear RC_a4 RG_a4 RT_a4 RF_a4 RB_a4 HB_a4
    clear z5_0 z5_1 z5_2 z5_3 z5_4 z5_5 z5_6 z5_7 z5_8
    refine hid ?_
    go_wp2_with (first | (go_at_call 14; refine (P2.out _).mono ?_; rintro e w7 ⟨rfl, hb⟩; have RC_7 := hid (row_on RC_6.out hb); have RG_7 := hid (row_on RG_6.out hb); have RT_7 := hid (row_on RT_6.out hb); have RF_7 := hid (row_on RF_6.out hb); have RB_7 := hid (row_on RB_6.out hb); have HB_7 := hid (btr HB_6.out hb); clear hb; refine Hid.out ?_))
    clear RC_6 RG_6 RT_6 RF_6 RB_6 HB_6
    have RC_a5 := hid (row_on RC_7.out (ball w7 (.cells (#[.int .u8 K2, .int .u64 v0, .int .u64 v1, .int .u64 v2, .int .u64 v3, .int .u64 v4, .int .u64 v5, .int .u64 v6]) 40)))
    have RG_a5 := hid (row_on RG_7.out (ball w7 (.cells (#[.int .u8 K2, .int .u64 v0, .int .u64 v1, .int .u64 v2, .int .u64 v3, .int .u64 v4, .int .u64 v5, .int .u64 v6]) 40)))
    have RT_a5 := hid (row_on RT_7.out (ball w7 (.cells (#[.int .u8 K2, .int .u64 v0, .int .u64 v1, .int .u64 v2, .int .u64 v3, .int .u64 v4, .int .u64 v5, .int .u64 v6]) 40)))
    have RF_a5 := hid (row_on RF_7.out (ball w7 (.cells (#[.int .u8 K2, .int .u64 v0, .int .u64 v1, .int .u64 v2, .int .u64 v3, .int .u64 v4, .int .u64 v5, .int .u64 v6]) 40)))
    have RB_a5 := hid (row_on RB_7.out (ball w7 (.cells (#[.int .u8 K2, .int .u64 v0, .int .u64 v1, .int .u64 v2, .int .u64 v3, .int .u64 v4, .int .u64 v5, .int .u64 v6]) 40)))
    have RH_a5 := hid (heap_alloc_new w7 (.cells (#[.int .u8 K2, .int .u64 v0, .int .u64 v1, .int .u64 v2, .int .u64 v3, .int .u64 v4, .int .u64 v5, .int .u64 v6]) 40))
    have HB_a5 := hid (btr HB_7.out (ball w7 (.cells (#[.int .u8 K2, .int .u64 v0, .int .u64 v1, .int .u64 v2, .int .u64 v3, .int .u64 v4, .int .u64 v5, .int .u64 v6]) 40)))
    clear RC_7 RG_7 RT_7 RF_7 RB_7 HB_7
    obtain ⟨z6_0, z6_1, z6_2, z6_3, z6_4, z6_5, z6_6, z6_7, z6_8⟩ := cells_C RC_a5.out
    refine hid ?_
    go_wp2_with (first | (go_at_call 22; refine (A3.out _).mono ?_; rintro e w8 ⟨rfl, hb⟩; have RC_8 := hid (row_on RC_a5.out hb); have RG_8 := hid (row_on RG_a5.out hb); have RT_8 := hid (row_on RT_a5.out hb); have RF_8 := hid (row_on RF_a5.out hb); have RB_8 := hid (row_on RB_a5.out hb); have RH_8 := hid (row_on RH_a5.out hb); have HB_8 := hid (btr HB_a5.out hb); clear hb; refine Hid.out ?_))
    clear RC_a5 RG_a5 RT_a5 RF_a5 RB_a5 RH_a5 HB_a5
    clear z6_0 z6_1 z6_2 z6_3 z6_4 z6_5 z6_6 z6_7 z6_8
    refine hid ?_
    go_wp2_with (first | (go_at_call 8; refine (L3.out _ (HM.out.on HB_8.out).laye.lay).mono ?_; rintro e w9 ⟨v9, rfl, hO9, hn9⟩; have hb := hO9.2.1; clear hO9 hn9; have RC_9 := hid (row_on RC_8.out hb); have RG_9 := hid (row_on RG_8.out hb); have RT_9 := hid (row_on RT_8.out hb); have RF_9 := hid (row_on RF_8.out hb); have RB_9 := hid (row_on RB_8.out hb); have RH_9 := hid (row_on RH_8.out hb); have HB_9 := hid (btr HB_8.out hb); clear hb; refine Hid.out ?_))
    clear RC_8 RG_8 RT_8 RF_8 RB_8 RH_8 HB_8
    obtain ⟨z7_0, z7_1, z7_2, z7_3, z7_4, z7_5, z7_6, z7_7, z7_8, z7_9, z7_10⟩ := cells_I RB_9.out
    obtain ⟨z8_0, z8_1, z8_2, z8_3, z8_4, z8_5, z8_6, z8_7, z8_8, z8_9, z8_10⟩ := cells_I RT_9.out
    refine hid ?_
    go_wp2
    go_ret
    exact ⟨by simp, HB_9.out⟩
  · have hE4 : E0 = 40 := by
      have e0 := H0.out
      by_cases h : (0 ≤ c.si ∧ c.si ≤ 255) ∧ (0 ≤ c.ty ∧ c.ty ≤ 255) ∧ (0 ≤ c.pr ∧ c.pr ≤ 4294967295)
      · rw [if_pos h] at e0; exact absurd e0 hE
      · rw [if_neg h] at e0; exact e0
    subst hE4
    clear hE H0 H1 H2 H3 BK hc
    have HBX := hid (btr HB_2.out (ball w2 (.cells (#[.int .u8 K0, .int .u64 u0, .int .u64 u1, .int .u64 u2, .int .u64 u3, .int .u64 u4, .int .u64 u5, .int .u64 u6]) 40)))
    refine hid ?_
    go_wp2
    go_ret
    exact ⟨by simp, HBX.out⟩

set_option maxHeartbeats 16000000 in
set_option maxRecDepth 100000 in
theorem edges_1 (c : Com) (hc : c.Ok) (f : Int) (hf0 : 0 ≤ f) (hr : f % 3 = 1) (w : World) (hM : LayM w) : Calls Tryd.prog 7 #[.agg c.v, .int .i64 f] w fun e w' => e = .returned (.bool true) ∧ Below w.heap.size w w' := by
  have HM := hid hM
  have LV := hid (fun w hM => lives_any w hM)
  have htm : f.tmod 3 = 1 := by rw [Int.tmod_eq_emod_of_nonneg hf0]; exact hr
  have hfn : ¬ (f < 0) := by omega
  have hfd : decide (f < 0) = false := by simpa using hfn
  have P0 := hid (fun w => pack_any (c.x c.si c.ty c.pr) (c.x_ok hc _ _ _) w)
  have P1 := hid (fun w => pack_any (c.x (c.si) (255) (c.pr)) (c.x_ok hc _ _ _) w)
  have P2 := hid (fun w => pack_any (c.x (c.si) (256) (c.pr)) (c.x_ok hc _ _ _) w)
  have L3 := hid (fun w hL => lineI_any (c.x (c.si) (-1) (c.pr)) (c.x_ok hc _ _ _) w hL)
  have BK := hid (frame_back (c.x (c.si) (255) (c.pr)) (c.x_ok hc _ _ _))
  have e0 := edge_e c hc c.si c.ty c.pr hc.si hc.ty hc.pr
  have e1 := edge_e c hc (c.si) (255) (c.pr) hc.si (by decide) hc.pr
  have e2 := edge_e c hc (c.si) (256) (c.pr) hc.si (by decide) hc.pr
  have e3 := edge_e c hc (c.si) (-1) (c.pr) hc.si (by decide) hc.pr
  have A1 := hid (fun w => at_any 1 c.id 0 c.me c.si c.ty c.pr c.qt c.pe f 255 1 htm (by omega) w)
  have A2 := hid (fun w => at_any 1 c.id 0 c.me c.si c.ty c.pr c.qt c.pe f 256 1 htm (by omega) w)
  have A3 := hid (fun w => at_any 1 c.id 0 c.me c.si c.ty c.pr c.qt c.pe f (-1) 1 htm (by omega) w)
  simp only [Int.reduceEq, if_true, if_false, reduceIte] at A1 A2 A3
  have RC0 := hid (heap_alloc_new w (.cells c.v 25))
  have HB0 := hid (ball w (.cells c.v 25))
  unfold Com.v at *
  obtain ⟨u0, u1, u2, u3, u4, u5, u6, hU⟩ := list7 (pw_len (c.x c.si c.ty c.pr))
  obtain ⟨K0, hK0⟩ : ∃ z, (c.x c.si c.ty c.pr).pk = z := ⟨_, rfl⟩
  obtain ⟨E0, hE0⟩ : ∃ z, (c.x c.si c.ty c.pr).e = z := ⟨_, rfl⟩
  rw [hU, hK0, hE0] at P0
  rw [hE0] at e0
  have H0 := hid e0
  have H1 := hid e1
  have H2 := hid e2
  have H3 := hid e3
  clear hU hK0 hE0 e0 e1 e2 e3
  have hf0v : frV K0 [u0, u1, u2, u3, u4, u5, u6] = #[.int .u8 K0, .int .u64 u0, .int .u64 u1, .int .u64 u2, .int .u64 u3, .int .u64 u4, .int .u64 u5, .int .u64 u6] := rfl
  rw [hf0v] at P0
  clear hf0v
  have x0v : (c.x c.si c.ty c.pr).v = #[.int .i64 1, .int .i64 1, .int .u64 c.id, .int .u64 0, .int .u32 c.me, .int .i64 c.si, .int .i64 c.ty, .int .i64 c.pr, .int .u64 c.qt, .int .u64 c.pe, .int .i64 0] := rfl
  rw [x0v] at P0
  clear x0v
  go_enter Tryd.func7, Tryd.ntmps7
  go_wp2_with (first | (go_at_call 13; refine (LV.out _ (HM.out.on HB0.out)).mono ?_; rintro e w1 ⟨rfl, hb⟩; have RC_1 := hid (row_on RC0.out hb); have HB_1 := hid (btr HB0.out hb); clear hb; refine Hid.out ?_))
  clear RC0 HB0
  obtain ⟨z1_0, z1_1, z1_2, z1_3, z1_4, z1_5, z1_6, z1_7, z1_8⟩ := cells_C RC_1.out
  have fz0 := frozen_of_row w1 w.heap.size 0 _ 25 RC_1.out
  have fz2 := frozen_of_row w1 w.heap.size 2 _ 25 RC_1.out
  have RD := hid (row_two RC_1.out)
  have HBD := hid (Below.setCell (Below.setCell HB_1.out (p := ⟨w.heap.size, 0, none⟩) (Nat.le_refl _) (.int .i64 1)) (p := ⟨w.heap.size, 2, none⟩) (Nat.le_refl _) (.int .u64 0))
  clear RC_1 HB_1
  refine hid ?_
  go_wp2_with (first | (go_at_call 14; refine (P0.out _).mono ?_; rintro e w2 ⟨rfl, hb⟩; have RC_2 := hid (row_on RD.out hb); have HB_2 := hid (btr HBD.out hb); clear hb; refine Hid.out ?_))
  clear RD HBD
  clear z1_0 z1_1 z1_2 z1_3 z1_4 z1_5 z1_6 z1_7 z1_8
  clear fz0 fz2 P0
  by_cases hE : E0 = 0
  · subst hE
    have e0 := H0.out
    have e1 := H1.out
    have e2 := H2.out
    have e3 := H3.out
    clear H0 H1 H2 H3
    have hin : (0 ≤ c.si ∧ c.si ≤ 255) ∧ (0 ≤ c.ty ∧ c.ty ≤ 255) ∧ (0 ≤ c.pr ∧ c.pr ≤ 4294967295) := by
      by_cases h : (0 ≤ c.si ∧ c.si ≤ 255) ∧ (0 ≤ c.ty ∧ c.ty ≤ 255) ∧ (0 ≤ c.pr ∧ c.pr ≤ 4294967295)
      · exact h
      · rw [if_neg h] at e0; omega
    rw [if_pos (by omega)] at e1
    rw [if_neg (by omega)] at e2
    rw [if_neg (by omega)] at e3
    clear e0 hin
    obtain ⟨b1, b2⟩ := BK.out e1
    have wa := pw_wd (c.x (c.si) (255) (c.pr))
    obtain ⟨ka, kb⟩ := pk_rg (c.x (c.si) (255) (c.pr))
    obtain ⟨a0, a1, a2, a3, a4, a5, a6, hA⟩ := list7 (pw_len (c.x (c.si) (255) (c.pr)))
    obtain ⟨v0, v1, v2, v3, v4, v5, v6, hV⟩ := list7 (pw_len (c.x (c.si) (256) (c.pr)))
    obtain ⟨K1, hK1⟩ : ∃ z, (c.x (c.si) (255) (c.pr)).pk = z := ⟨_, rfl⟩
    obtain ⟨K2, hK2⟩ : ∃ z, (c.x (c.si) (256) (c.pr)).pk = z := ⟨_, rfl⟩
    rw [hA, hK1, e1] at P1
    rw [hV, hK2, e2] at P2
    rw [e3] at L3
    rw [hA, hK1] at b1 b2
    rw [hA] at wa
    rw [hK1] at ka kb
    have U1 := hid (fun w => unpack_any K1 a0 a1 a2 a3 a4 a5 a6 ka kb wa w)
    rw [b1, b2] at U1
    have g1 : frV K1 [a0, a1, a2, a3, a4, a5, a6] = #[.int .u8 K1, .int .u64 a0, .int .u64 a1, .int .u64 a2, .int .u64 a3, .int .u64 a4, .int .u64 a5, .int .u64 a6] := rfl
    have g2 : frV K2 [v0, v1, v2, v3, v4, v5, v6] = #[.int .u8 K2, .int .u64 v0, .int .u64 v1, .int .u64 v2, .int .u64 v3, .int .u64 v4, .int .u64 v5, .int .u64 v6] := rfl
    have x1v : (c.x (c.si) (255) (c.pr)).v = #[.int .i64 1, .int .i64 1, .int .u64 c.id, .int .u64 0, .int .u32 c.me, .int .i64 c.si, .int .i64 255, .int .i64 c.pr, .int .u64 c.qt, .int .u64 c.pe, .int .i64 0] := rfl
    have x2v : (c.x (c.si) (256) (c.pr)).v = #[.int .i64 1, .int .i64 1, .int .u64 c.id, .int .u64 0, .int .u32 c.me, .int .i64 c.si, .int .i64 256, .int .i64 c.pr, .int .u64 c.qt, .int .u64 c.pe, .int .i64 0] := rfl
    have x3v : (c.x (c.si) (-1) (c.pr)).v = #[.int .i64 1, .int .i64 1, .int .u64 c.id, .int .u64 0, .int .u32 c.me, .int .i64 c.si, .int .i64 (-1), .int .i64 c.pr, .int .u64 c.qt, .int .u64 c.pe, .int .i64 0] := rfl
    rw [g1, x1v] at P1 U1
    rw [g2, x2v] at P2
    rw [x3v] at L3
    have q1 := eqI_yes (1) (1) (c.id) (0) (c.me) (c.si) (255) (c.pr) (c.qt) (c.pe) (0) (1) (1) (c.id) (0) (c.me) (c.si) (255) (c.pr) (c.qt) (c.pe) (0) rfl
    unfold iV at q1
    clear g1 g2 x1v x2v x3v hA hV hK1 hK2 b1 b2 wa ka kb e1 e2 e3 BK hc
    have RC_a1 := hid (row_on RC_2.out (ball w2 (.cells (#[.int .u8 K0, .int .u64 u0, .int .u64 u1, .int .u64 u2, .int .u64 u3, .int .u64 u4, .int .u64 u5, .int .u64 u6]) 40)))
    have RG_a1 := hid (heap_alloc_new w2 (.cells (#[.int .u8 K0, .int .u64 u0, .int .u64 u1, .int .u64 u2, .int .u64 u3, .int .u64 u4, .int .u64 u5, .int .u64 u6]) 40))
    have HB_a1 := hid (btr HB_2.out (ball w2 (.cells (#[.int .u8 K0, .int .u64 u0, .int .u64 u1, .int .u64 u2, .int .u64 u3, .int .u64 u4, .int .u64 u5, .int .u64 u6]) 40)))
    clear RC_2 HB_2
    obtain ⟨z2_0, z2_1, z2_2, z2_3, z2_4, z2_5, z2_6, z2_7, z2_8⟩ := cells_C RC_a1.out
    refine hid ?_
    go_wp2_with (first | (go_at_call 22; refine (A1.out _).mono ?_; rintro e w3 ⟨rfl, hb⟩; have RC_3 := hid (row_on RC_a1.out hb); have RG_3 := hid (row_on RG_a1.out hb); have HB_3 := hid (btr HB_a1.out hb); clear hb; refine Hid.out ?_))
    clear RC_a1 RG_a1 HB_a1
    clear z2_0 z2_1 z2_2 z2_3 z2_4 z2_5 z2_6 z2_7 z2_8
    have RC_a2 := hid (row_on RC_3.out (ball w3 (.cells (#[.int .i64 1, .int .i64 1, .int .u64 c.id, .int .u64 0, .int .u32 c.me, .int .i64 c.si, .int .i64 255, .int .i64 c.pr, .int .u64 c.qt, .int .u64 c.pe, .int .i64 0]) 27)))
    have RG_a2 := hid (row_on RG_3.out (ball w3 (.cells (#[.int .i64 1, .int .i64 1, .int .u64 c.id, .int .u64 0, .int .u32 c.me, .int .i64 c.si, .int .i64 255, .int .i64 c.pr, .int .u64 c.qt, .int .u64 c.pe, .int .i64 0]) 27)))
    have RT_a2 := hid (heap_alloc_new w3 (.cells (#[.int .i64 1, .int .i64 1, .int .u64 c.id, .int .u64 0, .int .u32 c.me, .int .i64 c.si, .int .i64 255, .int .i64 c.pr, .int .u64 c.qt, .int .u64 c.pe, .int .i64 0]) 27))
    have HB_a2 := hid (btr HB_3.out (ball w3 (.cells (#[.int .i64 1, .int .i64 1, .int .u64 c.id, .int .u64 0, .int .u32 c.me, .int .i64 c.si, .int .i64 255, .int .i64 c.pr, .int .u64 c.qt, .int .u64 c.pe, .int .i64 0]) 27)))
    clear RC_3 RG_3 HB_3
    obtain ⟨z3_0, z3_1, z3_2, z3_3, z3_4, z3_5, z3_6, z3_7, z3_8, z3_9, z3_10⟩ := cells_I RT_a2.out
    refine hid ?_
    go_wp2_with (first | (go_at_call 14; refine (P1.out _).mono ?_; rintro e w4 ⟨rfl, hb⟩; have RC_4 := hid (row_on RC_a2.out hb); have RG_4 := hid (row_on RG_a2.out hb); have RT_4 := hid (row_on RT_a2.out hb); have HB_4 := hid (btr HB_a2.out hb); clear hb; refine Hid.out ?_))
    clear RC_a2 RG_a2 RT_a2 HB_a2
    clear z3_0 z3_1 z3_2 z3_3 z3_4 z3_5 z3_6 z3_7 z3_8 z3_9 z3_10
    have RC_a3 := hid (row_on RC_4.out (ball w4 (.cells (#[.int .u8 K1, .int .u64 a0, .int .u64 a1, .int .u64 a2, .int .u64 a3, .int .u64 a4, .int .u64 a5, .int .u64 a6]) 40)))
    have RG_a3 := hid (row_on RG_4.out (ball w4 (.cells (#[.int .u8 K1, .int .u64 a0, .int .u64 a1, .int .u64 a2, .int .u64 a3, .int .u64 a4, .int .u64 a5, .int .u64 a6]) 40)))
    have RT_a3 := hid (row_on RT_4.out (ball w4 (.cells (#[.int .u8 K1, .int .u64 a0, .int .u64 a1, .int .u64 a2, .int .u64 a3, .int .u64 a4, .int .u64 a5, .int .u64 a6]) 40)))
    have RF_a3 := hid (heap_alloc_new w4 (.cells (#[.int .u8 K1, .int .u64 a0, .int .u64 a1, .int .u64 a2, .int .u64 a3, .int .u64 a4, .int .u64 a5, .int .u64 a6]) 40))
    have HB_a3 := hid (btr HB_4.out (ball w4 (.cells (#[.int .u8 K1, .int .u64 a0, .int .u64 a1, .int .u64 a2, .int .u64 a3, .int .u64 a4, .int .u64 a5, .int .u64 a6]) 40)))
    clear RC_4 RG_4 RT_4 HB_4
    obtain ⟨z4_0, z4_1, z4_2, z4_3, z4_4, z4_5, z4_6, z4_7⟩ := cells_F (k := K1) (a0 := a0) (a1 := a1) (a2 := a2) (a3 := a3) (a4 := a4) (a5 := a5) (a6 := a6) RF_a3.out
    refine hid ?_
    go_wp2_with (first | (go_at_call 16; refine (U1.out _).mono ?_; rintro e w5 ⟨rfl, hb⟩; have RC_5 := hid (row_on RC_a3.out hb); have RG_5 := hid (row_on RG_a3.out hb); have RT_5 := hid (row_on RT_a3.out hb); have RF_5 := hid (row_on RF_a3.out hb); have HB_5 := hid (btr HB_a3.out hb); clear hb; refine Hid.out ?_))
    clear RC_a3 RG_a3 RT_a3 RF_a3 HB_a3
    clear z4_0 z4_1 z4_2 z4_3 z4_4 z4_5 z4_6 z4_7
    have RC_a4 := hid (row_on RC_5.out (ball w5 (.cells (#[.int .i64 1, .int .i64 1, .int .u64 c.id, .int .u64 0, .int .u32 c.me, .int .i64 c.si, .int .i64 255, .int .i64 c.pr, .int .u64 c.qt, .int .u64 c.pe, .int .i64 0]) 27)))
    have RG_a4 := hid (row_on RG_5.out (ball w5 (.cells (#[.int .i64 1, .int .i64 1, .int .u64 c.id, .int .u64 0, .int .u32 c.me, .int .i64 c.si, .int .i64 255, .int .i64 c.pr, .int .u64 c.qt, .int .u64 c.pe, .int .i64 0]) 27)))
    have RT_a4 := hid (row_on RT_5.out (ball w5 (.cells (#[.int .i64 1, .int .i64 1, .int .u64 c.id, .int .u64 0, .int .u32 c.me, .int .i64 c.si, .int .i64 255, .int .i64 c.pr, .int .u64 c.qt, .int .u64 c.pe, .int .i64 0]) 27)))
    have RF_a4 := hid (row_on RF_5.out (ball w5 (.cells (#[.int .i64 1, .int .i64 1, .int .u64 c.id, .int .u64 0, .int .u32 c.me, .int .i64 c.si, .int .i64 255, .int .i64 c.pr, .int .u64 c.qt, .int .u64 c.pe, .int .i64 0]) 27)))
    have RB_a4 := hid (heap_alloc_new w5 (.cells (#[.int .i64 1, .int .i64 1, .int .u64 c.id, .int .u64 0, .int .u32 c.me, .int .i64 c.si, .int .i64 255, .int .i64 c.pr, .int .u64 c.qt, .int .u64 c.pe, .int .i64 0]) 27))
    have HB_a4 := hid (btr HB_5.out (ball w5 (.cells (#[.int .i64 1, .int .i64 1, .int .u64 c.id, .int .u64 0, .int .u32 c.me, .int .i64 c.si, .int .i64 255, .int .i64 c.pr, .int .u64 c.qt, .int .u64 c.pe, .int .i64 0]) 27)))
    clear RC_5 RG_5 RT_5 RF_5 HB_5
    obtain ⟨z5_0, z5_1, z5_2, z5_3, z5_4, z5_5, z5_6, z5_7, z5_8⟩ := cells_C RC_a4.out
    refine hid ?_
    go_wp2_with (first | (go_at_call 22; refine (A2.out _).mono ?_; rintro e w6 ⟨rfl, hb⟩; have RC_6 := hid (row_on RC_a4.out hb); have RG_6 := hid (row_on RG_a4.out hb); have RT_6 := hid (row_on RT_a4.out hb); have RF_6 := hid (row_on RF_a4.out hb); have RB_6 := hid (row_on RB_a4.out hb); have HB_6 := hid (btr HB_a4.out hb); clear hb; refine Hid.out ?_))
    clear RC_a4 RG_a4 RT_a4 RF_a4 RB_a4 HB_a4
    clear z5_0 z5_1 z5_2 z5_3 z5_4 z5_5 z5_6 z5_7 z5_8
    refine hid ?_
    go_wp2_with (first | (go_at_call 14; refine (P2.out _).mono ?_; rintro e w7 ⟨rfl, hb⟩; have RC_7 := hid (row_on RC_6.out hb); have RG_7 := hid (row_on RG_6.out hb); have RT_7 := hid (row_on RT_6.out hb); have RF_7 := hid (row_on RF_6.out hb); have RB_7 := hid (row_on RB_6.out hb); have HB_7 := hid (btr HB_6.out hb); clear hb; refine Hid.out ?_))
    clear RC_6 RG_6 RT_6 RF_6 RB_6 HB_6
    have RC_a5 := hid (row_on RC_7.out (ball w7 (.cells (#[.int .u8 K2, .int .u64 v0, .int .u64 v1, .int .u64 v2, .int .u64 v3, .int .u64 v4, .int .u64 v5, .int .u64 v6]) 40)))
    have RG_a5 := hid (row_on RG_7.out (ball w7 (.cells (#[.int .u8 K2, .int .u64 v0, .int .u64 v1, .int .u64 v2, .int .u64 v3, .int .u64 v4, .int .u64 v5, .int .u64 v6]) 40)))
    have RT_a5 := hid (row_on RT_7.out (ball w7 (.cells (#[.int .u8 K2, .int .u64 v0, .int .u64 v1, .int .u64 v2, .int .u64 v3, .int .u64 v4, .int .u64 v5, .int .u64 v6]) 40)))
    have RF_a5 := hid (row_on RF_7.out (ball w7 (.cells (#[.int .u8 K2, .int .u64 v0, .int .u64 v1, .int .u64 v2, .int .u64 v3, .int .u64 v4, .int .u64 v5, .int .u64 v6]) 40)))
    have RB_a5 := hid (row_on RB_7.out (ball w7 (.cells (#[.int .u8 K2, .int .u64 v0, .int .u64 v1, .int .u64 v2, .int .u64 v3, .int .u64 v4, .int .u64 v5, .int .u64 v6]) 40)))
    have RH_a5 := hid (heap_alloc_new w7 (.cells (#[.int .u8 K2, .int .u64 v0, .int .u64 v1, .int .u64 v2, .int .u64 v3, .int .u64 v4, .int .u64 v5, .int .u64 v6]) 40))
    have HB_a5 := hid (btr HB_7.out (ball w7 (.cells (#[.int .u8 K2, .int .u64 v0, .int .u64 v1, .int .u64 v2, .int .u64 v3, .int .u64 v4, .int .u64 v5, .int .u64 v6]) 40)))
    clear RC_7 RG_7 RT_7 RF_7 RB_7 HB_7
    obtain ⟨z6_0, z6_1, z6_2, z6_3, z6_4, z6_5, z6_6, z6_7, z6_8⟩ := cells_C RC_a5.out
    refine hid ?_
    go_wp2_with (first | (go_at_call 22; refine (A3.out _).mono ?_; rintro e w8 ⟨rfl, hb⟩; have RC_8 := hid (row_on RC_a5.out hb); have RG_8 := hid (row_on RG_a5.out hb); have RT_8 := hid (row_on RT_a5.out hb); have RF_8 := hid (row_on RF_a5.out hb); have RB_8 := hid (row_on RB_a5.out hb); have RH_8 := hid (row_on RH_a5.out hb); have HB_8 := hid (btr HB_a5.out hb); clear hb; refine Hid.out ?_))
    clear RC_a5 RG_a5 RT_a5 RF_a5 RB_a5 RH_a5 HB_a5
    clear z6_0 z6_1 z6_2 z6_3 z6_4 z6_5 z6_6 z6_7 z6_8
    refine hid ?_
    go_wp2_with (first | (go_at_call 8; refine (L3.out _ (HM.out.on HB_8.out).laye.lay).mono ?_; rintro e w9 ⟨v9, rfl, hO9, hn9⟩; have hb := hO9.2.1; clear hO9 hn9; have RC_9 := hid (row_on RC_8.out hb); have RG_9 := hid (row_on RG_8.out hb); have RT_9 := hid (row_on RT_8.out hb); have RF_9 := hid (row_on RF_8.out hb); have RB_9 := hid (row_on RB_8.out hb); have RH_9 := hid (row_on RH_8.out hb); have HB_9 := hid (btr HB_8.out hb); clear hb; refine Hid.out ?_))
    clear RC_8 RG_8 RT_8 RF_8 RB_8 RH_8 HB_8
    obtain ⟨z7_0, z7_1, z7_2, z7_3, z7_4, z7_5, z7_6, z7_7, z7_8, z7_9, z7_10⟩ := cells_I RB_9.out
    obtain ⟨z8_0, z8_1, z8_2, z8_3, z8_4, z8_5, z8_6, z8_7, z8_8, z8_9, z8_10⟩ := cells_I RT_9.out
    refine hid ?_
    go_wp2
    go_ret
    exact ⟨by simp, HB_9.out⟩
  · have hE4 : E0 = 40 := by
      have e0 := H0.out
      by_cases h : (0 ≤ c.si ∧ c.si ≤ 255) ∧ (0 ≤ c.ty ∧ c.ty ≤ 255) ∧ (0 ≤ c.pr ∧ c.pr ≤ 4294967295)
      · rw [if_pos h] at e0; exact absurd e0 hE
      · rw [if_neg h] at e0; exact e0
    subst hE4
    clear hE H0 H1 H2 H3 BK hc
    have HBX := hid (btr HB_2.out (ball w2 (.cells (#[.int .u8 K0, .int .u64 u0, .int .u64 u1, .int .u64 u2, .int .u64 u3, .int .u64 u4, .int .u64 u5, .int .u64 u6]) 40)))
    refine hid ?_
    go_wp2
    go_ret
    exact ⟨by simp, HBX.out⟩

set_option maxHeartbeats 16000000 in
set_option maxRecDepth 100000 in
theorem edges_2 (c : Com) (hc : c.Ok) (f : Int) (hf0 : 0 ≤ f) (hr : f % 3 = 2) (w : World) (hM : LayM w) : Calls Tryd.prog 7 #[.agg c.v, .int .i64 f] w fun e w' => e = .returned (.bool true) ∧ Below w.heap.size w w' := by
  have HM := hid hM
  have LV := hid (fun w hM => lives_any w hM)
  have htm : f.tmod 3 = 2 := by rw [Int.tmod_eq_emod_of_nonneg hf0]; exact hr
  have hfn : ¬ (f < 0) := by omega
  have hfd : decide (f < 0) = false := by simpa using hfn
  have P0 := hid (fun w => pack_any (c.x c.si c.ty c.pr) (c.x_ok hc _ _ _) w)
  have P1 := hid (fun w => pack_any (c.x (c.si) (c.ty) (4294967295)) (c.x_ok hc _ _ _) w)
  have P2 := hid (fun w => pack_any (c.x (c.si) (c.ty) (4294967296)) (c.x_ok hc _ _ _) w)
  have L3 := hid (fun w hL => lineI_any (c.x (c.si) (c.ty) (-1)) (c.x_ok hc _ _ _) w hL)
  have BK := hid (frame_back (c.x (c.si) (c.ty) (4294967295)) (c.x_ok hc _ _ _))
  have e0 := edge_e c hc c.si c.ty c.pr hc.si hc.ty hc.pr
  have e1 := edge_e c hc (c.si) (c.ty) (4294967295) hc.si hc.ty (by decide)
  have e2 := edge_e c hc (c.si) (c.ty) (4294967296) hc.si hc.ty (by decide)
  have e3 := edge_e c hc (c.si) (c.ty) (-1) hc.si hc.ty (by decide)
  have A1 := hid (fun w => at_any 1 c.id 0 c.me c.si c.ty c.pr c.qt c.pe f 4294967295 2 htm (by omega) w)
  have A2 := hid (fun w => at_any 1 c.id 0 c.me c.si c.ty c.pr c.qt c.pe f 4294967296 2 htm (by omega) w)
  have A3 := hid (fun w => at_any 1 c.id 0 c.me c.si c.ty c.pr c.qt c.pe f (-1) 2 htm (by omega) w)
  simp only [Int.reduceEq, if_true, if_false, reduceIte] at A1 A2 A3
  have RC0 := hid (heap_alloc_new w (.cells c.v 25))
  have HB0 := hid (ball w (.cells c.v 25))
  unfold Com.v at *
  obtain ⟨u0, u1, u2, u3, u4, u5, u6, hU⟩ := list7 (pw_len (c.x c.si c.ty c.pr))
  obtain ⟨K0, hK0⟩ : ∃ z, (c.x c.si c.ty c.pr).pk = z := ⟨_, rfl⟩
  obtain ⟨E0, hE0⟩ : ∃ z, (c.x c.si c.ty c.pr).e = z := ⟨_, rfl⟩
  rw [hU, hK0, hE0] at P0
  rw [hE0] at e0
  have H0 := hid e0
  have H1 := hid e1
  have H2 := hid e2
  have H3 := hid e3
  clear hU hK0 hE0 e0 e1 e2 e3
  have hf0v : frV K0 [u0, u1, u2, u3, u4, u5, u6] = #[.int .u8 K0, .int .u64 u0, .int .u64 u1, .int .u64 u2, .int .u64 u3, .int .u64 u4, .int .u64 u5, .int .u64 u6] := rfl
  rw [hf0v] at P0
  clear hf0v
  have x0v : (c.x c.si c.ty c.pr).v = #[.int .i64 1, .int .i64 1, .int .u64 c.id, .int .u64 0, .int .u32 c.me, .int .i64 c.si, .int .i64 c.ty, .int .i64 c.pr, .int .u64 c.qt, .int .u64 c.pe, .int .i64 0] := rfl
  rw [x0v] at P0
  clear x0v
  go_enter Tryd.func7, Tryd.ntmps7
  go_wp2_with (first | (go_at_call 13; refine (LV.out _ (HM.out.on HB0.out)).mono ?_; rintro e w1 ⟨rfl, hb⟩; have RC_1 := hid (row_on RC0.out hb); have HB_1 := hid (btr HB0.out hb); clear hb; refine Hid.out ?_))
  clear RC0 HB0
  obtain ⟨z1_0, z1_1, z1_2, z1_3, z1_4, z1_5, z1_6, z1_7, z1_8⟩ := cells_C RC_1.out
  have fz0 := frozen_of_row w1 w.heap.size 0 _ 25 RC_1.out
  have fz2 := frozen_of_row w1 w.heap.size 2 _ 25 RC_1.out
  have RD := hid (row_two RC_1.out)
  have HBD := hid (Below.setCell (Below.setCell HB_1.out (p := ⟨w.heap.size, 0, none⟩) (Nat.le_refl _) (.int .i64 1)) (p := ⟨w.heap.size, 2, none⟩) (Nat.le_refl _) (.int .u64 0))
  clear RC_1 HB_1
  refine hid ?_
  go_wp2_with (first | (go_at_call 14; refine (P0.out _).mono ?_; rintro e w2 ⟨rfl, hb⟩; have RC_2 := hid (row_on RD.out hb); have HB_2 := hid (btr HBD.out hb); clear hb; refine Hid.out ?_))
  clear RD HBD
  clear z1_0 z1_1 z1_2 z1_3 z1_4 z1_5 z1_6 z1_7 z1_8
  clear fz0 fz2 P0
  by_cases hE : E0 = 0
  · subst hE
    have e0 := H0.out
    have e1 := H1.out
    have e2 := H2.out
    have e3 := H3.out
    clear H0 H1 H2 H3
    have hin : (0 ≤ c.si ∧ c.si ≤ 255) ∧ (0 ≤ c.ty ∧ c.ty ≤ 255) ∧ (0 ≤ c.pr ∧ c.pr ≤ 4294967295) := by
      by_cases h : (0 ≤ c.si ∧ c.si ≤ 255) ∧ (0 ≤ c.ty ∧ c.ty ≤ 255) ∧ (0 ≤ c.pr ∧ c.pr ≤ 4294967295)
      · exact h
      · rw [if_neg h] at e0; omega
    rw [if_pos (by omega)] at e1
    rw [if_neg (by omega)] at e2
    rw [if_neg (by omega)] at e3
    clear e0 hin
    obtain ⟨b1, b2⟩ := BK.out e1
    have wa := pw_wd (c.x (c.si) (c.ty) (4294967295))
    obtain ⟨ka, kb⟩ := pk_rg (c.x (c.si) (c.ty) (4294967295))
    obtain ⟨a0, a1, a2, a3, a4, a5, a6, hA⟩ := list7 (pw_len (c.x (c.si) (c.ty) (4294967295)))
    obtain ⟨v0, v1, v2, v3, v4, v5, v6, hV⟩ := list7 (pw_len (c.x (c.si) (c.ty) (4294967296)))
    obtain ⟨K1, hK1⟩ : ∃ z, (c.x (c.si) (c.ty) (4294967295)).pk = z := ⟨_, rfl⟩
    obtain ⟨K2, hK2⟩ : ∃ z, (c.x (c.si) (c.ty) (4294967296)).pk = z := ⟨_, rfl⟩
    rw [hA, hK1, e1] at P1
    rw [hV, hK2, e2] at P2
    rw [e3] at L3
    rw [hA, hK1] at b1 b2
    rw [hA] at wa
    rw [hK1] at ka kb
    have U1 := hid (fun w => unpack_any K1 a0 a1 a2 a3 a4 a5 a6 ka kb wa w)
    rw [b1, b2] at U1
    have g1 : frV K1 [a0, a1, a2, a3, a4, a5, a6] = #[.int .u8 K1, .int .u64 a0, .int .u64 a1, .int .u64 a2, .int .u64 a3, .int .u64 a4, .int .u64 a5, .int .u64 a6] := rfl
    have g2 : frV K2 [v0, v1, v2, v3, v4, v5, v6] = #[.int .u8 K2, .int .u64 v0, .int .u64 v1, .int .u64 v2, .int .u64 v3, .int .u64 v4, .int .u64 v5, .int .u64 v6] := rfl
    have x1v : (c.x (c.si) (c.ty) (4294967295)).v = #[.int .i64 1, .int .i64 1, .int .u64 c.id, .int .u64 0, .int .u32 c.me, .int .i64 c.si, .int .i64 c.ty, .int .i64 4294967295, .int .u64 c.qt, .int .u64 c.pe, .int .i64 0] := rfl
    have x2v : (c.x (c.si) (c.ty) (4294967296)).v = #[.int .i64 1, .int .i64 1, .int .u64 c.id, .int .u64 0, .int .u32 c.me, .int .i64 c.si, .int .i64 c.ty, .int .i64 4294967296, .int .u64 c.qt, .int .u64 c.pe, .int .i64 0] := rfl
    have x3v : (c.x (c.si) (c.ty) (-1)).v = #[.int .i64 1, .int .i64 1, .int .u64 c.id, .int .u64 0, .int .u32 c.me, .int .i64 c.si, .int .i64 c.ty, .int .i64 (-1), .int .u64 c.qt, .int .u64 c.pe, .int .i64 0] := rfl
    rw [g1, x1v] at P1 U1
    rw [g2, x2v] at P2
    rw [x3v] at L3
    have q1 := eqI_yes (1) (1) (c.id) (0) (c.me) (c.si) (c.ty) (4294967295) (c.qt) (c.pe) (0) (1) (1) (c.id) (0) (c.me) (c.si) (c.ty) (4294967295) (c.qt) (c.pe) (0) rfl
    unfold iV at q1
    clear g1 g2 x1v x2v x3v hA hV hK1 hK2 b1 b2 wa ka kb e1 e2 e3 BK hc
    have RC_a1 := hid (row_on RC_2.out (ball w2 (.cells (#[.int .u8 K0, .int .u64 u0, .int .u64 u1, .int .u64 u2, .int .u64 u3, .int .u64 u4, .int .u64 u5, .int .u64 u6]) 40)))
    have RG_a1 := hid (heap_alloc_new w2 (.cells (#[.int .u8 K0, .int .u64 u0, .int .u64 u1, .int .u64 u2, .int .u64 u3, .int .u64 u4, .int .u64 u5, .int .u64 u6]) 40))
    have HB_a1 := hid (btr HB_2.out (ball w2 (.cells (#[.int .u8 K0, .int .u64 u0, .int .u64 u1, .int .u64 u2, .int .u64 u3, .int .u64 u4, .int .u64 u5, .int .u64 u6]) 40)))
    clear RC_2 HB_2
    obtain ⟨z2_0, z2_1, z2_2, z2_3, z2_4, z2_5, z2_6, z2_7, z2_8⟩ := cells_C RC_a1.out
    refine hid ?_
    go_wp2_with (first | (go_at_call 22; refine (A1.out _).mono ?_; rintro e w3 ⟨rfl, hb⟩; have RC_3 := hid (row_on RC_a1.out hb); have RG_3 := hid (row_on RG_a1.out hb); have HB_3 := hid (btr HB_a1.out hb); clear hb; refine Hid.out ?_))
    clear RC_a1 RG_a1 HB_a1
    clear z2_0 z2_1 z2_2 z2_3 z2_4 z2_5 z2_6 z2_7 z2_8
    have RC_a2 := hid (row_on RC_3.out (ball w3 (.cells (#[.int .i64 1, .int .i64 1, .int .u64 c.id, .int .u64 0, .int .u32 c.me, .int .i64 c.si, .int .i64 c.ty, .int .i64 4294967295, .int .u64 c.qt, .int .u64 c.pe, .int .i64 0]) 27)))
    have RG_a2 := hid (row_on RG_3.out (ball w3 (.cells (#[.int .i64 1, .int .i64 1, .int .u64 c.id, .int .u64 0, .int .u32 c.me, .int .i64 c.si, .int .i64 c.ty, .int .i64 4294967295, .int .u64 c.qt, .int .u64 c.pe, .int .i64 0]) 27)))
    have RT_a2 := hid (heap_alloc_new w3 (.cells (#[.int .i64 1, .int .i64 1, .int .u64 c.id, .int .u64 0, .int .u32 c.me, .int .i64 c.si, .int .i64 c.ty, .int .i64 4294967295, .int .u64 c.qt, .int .u64 c.pe, .int .i64 0]) 27))
    have HB_a2 := hid (btr HB_3.out (ball w3 (.cells (#[.int .i64 1, .int .i64 1, .int .u64 c.id, .int .u64 0, .int .u32 c.me, .int .i64 c.si, .int .i64 c.ty, .int .i64 4294967295, .int .u64 c.qt, .int .u64 c.pe, .int .i64 0]) 27)))
    clear RC_3 RG_3 HB_3
    obtain ⟨z3_0, z3_1, z3_2, z3_3, z3_4, z3_5, z3_6, z3_7, z3_8, z3_9, z3_10⟩ := cells_I RT_a2.out
    refine hid ?_
    go_wp2_with (first | (go_at_call 14; refine (P1.out _).mono ?_; rintro e w4 ⟨rfl, hb⟩; have RC_4 := hid (row_on RC_a2.out hb); have RG_4 := hid (row_on RG_a2.out hb); have RT_4 := hid (row_on RT_a2.out hb); have HB_4 := hid (btr HB_a2.out hb); clear hb; refine Hid.out ?_))
    clear RC_a2 RG_a2 RT_a2 HB_a2
    clear z3_0 z3_1 z3_2 z3_3 z3_4 z3_5 z3_6 z3_7 z3_8 z3_9 z3_10
    have RC_a3 := hid (row_on RC_4.out (ball w4 (.cells (#[.int .u8 K1, .int .u64 a0, .int .u64 a1, .int .u64 a2, .int .u64 a3, .int .u64 a4, .int .u64 a5, .int .u64 a6]) 40)))
    have RG_a3 := hid (row_on RG_4.out (ball w4 (.cells (#[.int .u8 K1, .int .u64 a0, .int .u64 a1, .int .u64 a2, .int .u64 a3, .int .u64 a4, .int .u64 a5, .int .u64 a6]) 40)))
    have RT_a3 := hid (row_on RT_4.out (ball w4 (.cells (#[.int .u8 K1, .int .u64 a0, .int .u64 a1, .int .u64 a2, .int .u64 a3, .int .u64 a4, .int .u64 a5, .int .u64 a6]) 40)))
    have RF_a3 := hid (heap_alloc_new w4 (.cells (#[.int .u8 K1, .int .u64 a0, .int .u64 a1, .int .u64 a2, .int .u64 a3, .int .u64 a4, .int .u64 a5, .int .u64 a6]) 40))
    have HB_a3 := hid (btr HB_4.out (ball w4 (.cells (#[.int .u8 K1, .int .u64 a0, .int .u64 a1, .int .u64 a2, .int .u64 a3, .int .u64 a4, .int .u64 a5, .int .u64 a6]) 40)))
    clear RC_4 RG_4 RT_4 HB_4
    obtain ⟨z4_0, z4_1, z4_2, z4_3, z4_4, z4_5, z4_6, z4_7⟩ := cells_F (k := K1) (a0 := a0) (a1 := a1) (a2 := a2) (a3 := a3) (a4 := a4) (a5 := a5) (a6 := a6) RF_a3.out
    refine hid ?_
    go_wp2_with (first | (go_at_call 16; refine (U1.out _).mono ?_; rintro e w5 ⟨rfl, hb⟩; have RC_5 := hid (row_on RC_a3.out hb); have RG_5 := hid (row_on RG_a3.out hb); have RT_5 := hid (row_on RT_a3.out hb); have RF_5 := hid (row_on RF_a3.out hb); have HB_5 := hid (btr HB_a3.out hb); clear hb; refine Hid.out ?_))
    clear RC_a3 RG_a3 RT_a3 RF_a3 HB_a3
    clear z4_0 z4_1 z4_2 z4_3 z4_4 z4_5 z4_6 z4_7
    have RC_a4 := hid (row_on RC_5.out (ball w5 (.cells (#[.int .i64 1, .int .i64 1, .int .u64 c.id, .int .u64 0, .int .u32 c.me, .int .i64 c.si, .int .i64 c.ty, .int .i64 4294967295, .int .u64 c.qt, .int .u64 c.pe, .int .i64 0]) 27)))
    have RG_a4 := hid (row_on RG_5.out (ball w5 (.cells (#[.int .i64 1, .int .i64 1, .int .u64 c.id, .int .u64 0, .int .u32 c.me, .int .i64 c.si, .int .i64 c.ty, .int .i64 4294967295, .int .u64 c.qt, .int .u64 c.pe, .int .i64 0]) 27)))
    have RT_a4 := hid (row_on RT_5.out (ball w5 (.cells (#[.int .i64 1, .int .i64 1, .int .u64 c.id, .int .u64 0, .int .u32 c.me, .int .i64 c.si, .int .i64 c.ty, .int .i64 4294967295, .int .u64 c.qt, .int .u64 c.pe, .int .i64 0]) 27)))
    have RF_a4 := hid (row_on RF_5.out (ball w5 (.cells (#[.int .i64 1, .int .i64 1, .int .u64 c.id, .int .u64 0, .int .u32 c.me, .int .i64 c.si, .int .i64 c.ty, .int .i64 4294967295, .int .u64 c.qt, .int .u64 c.pe, .int .i64 0]) 27)))
    have RB_a4 := hid (heap_alloc_new w5 (.cells (#[.int .i64 1, .int .i64 1, .int .u64 c.id, .int .u64 0, .int .u32 c.me, .int .i64 c.si, .int .i64 c.ty, .int .i64 4294967295, .int .u64 c.qt, .int .u64 c.pe, .int .i64 0]) 27))
    have HB_a4 := hid (btr HB_5.out (ball w5 (.cells (#[.int .i64 1, .int .i64 1, .int .u64 c.id, .int .u64 0, .int .u32 c.me, .int .i64 c.si, .int .i64 c.ty, .int .i64 4294967295, .int .u64 c.qt, .int .u64 c.pe, .int .i64 0]) 27)))
    clear RC_5 RG_5 RT_5 RF_5 HB_5
    obtain ⟨z5_0, z5_1, z5_2, z5_3, z5_4, z5_5, z5_6, z5_7, z5_8⟩ := cells_C RC_a4.out
    refine hid ?_
    go_wp2_with (first | (go_at_call 22; refine (A2.out _).mono ?_; rintro e w6 ⟨rfl, hb⟩; have RC_6 := hid (row_on RC_a4.out hb); have RG_6 := hid (row_on RG_a4.out hb); have RT_6 := hid (row_on RT_a4.out hb); have RF_6 := hid (row_on RF_a4.out hb); have RB_6 := hid (row_on RB_a4.out hb); have HB_6 := hid (btr HB_a4.out hb); clear hb; refine Hid.out ?_))
    clear RC_a4 RG_a4 RT_a4 RF_a4 RB_a4 HB_a4
    clear z5_0 z5_1 z5_2 z5_3 z5_4 z5_5 z5_6 z5_7 z5_8
    refine hid ?_
    go_wp2_with (first | (go_at_call 14; refine (P2.out _).mono ?_; rintro e w7 ⟨rfl, hb⟩; have RC_7 := hid (row_on RC_6.out hb); have RG_7 := hid (row_on RG_6.out hb); have RT_7 := hid (row_on RT_6.out hb); have RF_7 := hid (row_on RF_6.out hb); have RB_7 := hid (row_on RB_6.out hb); have HB_7 := hid (btr HB_6.out hb); clear hb; refine Hid.out ?_))
    clear RC_6 RG_6 RT_6 RF_6 RB_6 HB_6
    have RC_a5 := hid (row_on RC_7.out (ball w7 (.cells (#[.int .u8 K2, .int .u64 v0, .int .u64 v1, .int .u64 v2, .int .u64 v3, .int .u64 v4, .int .u64 v5, .int .u64 v6]) 40)))
    have RG_a5 := hid (row_on RG_7.out (ball w7 (.cells (#[.int .u8 K2, .int .u64 v0, .int .u64 v1, .int .u64 v2, .int .u64 v3, .int .u64 v4, .int .u64 v5, .int .u64 v6]) 40)))
    have RT_a5 := hid (row_on RT_7.out (ball w7 (.cells (#[.int .u8 K2, .int .u64 v0, .int .u64 v1, .int .u64 v2, .int .u64 v3, .int .u64 v4, .int .u64 v5, .int .u64 v6]) 40)))
    have RF_a5 := hid (row_on RF_7.out (ball w7 (.cells (#[.int .u8 K2, .int .u64 v0, .int .u64 v1, .int .u64 v2, .int .u64 v3, .int .u64 v4, .int .u64 v5, .int .u64 v6]) 40)))
    have RB_a5 := hid (row_on RB_7.out (ball w7 (.cells (#[.int .u8 K2, .int .u64 v0, .int .u64 v1, .int .u64 v2, .int .u64 v3, .int .u64 v4, .int .u64 v5, .int .u64 v6]) 40)))
    have RH_a5 := hid (heap_alloc_new w7 (.cells (#[.int .u8 K2, .int .u64 v0, .int .u64 v1, .int .u64 v2, .int .u64 v3, .int .u64 v4, .int .u64 v5, .int .u64 v6]) 40))
    have HB_a5 := hid (btr HB_7.out (ball w7 (.cells (#[.int .u8 K2, .int .u64 v0, .int .u64 v1, .int .u64 v2, .int .u64 v3, .int .u64 v4, .int .u64 v5, .int .u64 v6]) 40)))
    clear RC_7 RG_7 RT_7 RF_7 RB_7 HB_7
    obtain ⟨z6_0, z6_1, z6_2, z6_3, z6_4, z6_5, z6_6, z6_7, z6_8⟩ := cells_C RC_a5.out
    refine hid ?_
    go_wp2_with (first | (go_at_call 22; refine (A3.out _).mono ?_; rintro e w8 ⟨rfl, hb⟩; have RC_8 := hid (row_on RC_a5.out hb); have RG_8 := hid (row_on RG_a5.out hb); have RT_8 := hid (row_on RT_a5.out hb); have RF_8 := hid (row_on RF_a5.out hb); have RB_8 := hid (row_on RB_a5.out hb); have RH_8 := hid (row_on RH_a5.out hb); have HB_8 := hid (btr HB_a5.out hb); clear hb; refine Hid.out ?_))
    clear RC_a5 RG_a5 RT_a5 RF_a5 RB_a5 RH_a5 HB_a5
    clear z6_0 z6_1 z6_2 z6_3 z6_4 z6_5 z6_6 z6_7 z6_8
    refine hid ?_
    go_wp2_with (first | (go_at_call 8; refine (L3.out _ (HM.out.on HB_8.out).laye.lay).mono ?_; rintro e w9 ⟨v9, rfl, hO9, hn9⟩; have hb := hO9.2.1; clear hO9 hn9; have RC_9 := hid (row_on RC_8.out hb); have RG_9 := hid (row_on RG_8.out hb); have RT_9 := hid (row_on RT_8.out hb); have RF_9 := hid (row_on RF_8.out hb); have RB_9 := hid (row_on RB_8.out hb); have RH_9 := hid (row_on RH_8.out hb); have HB_9 := hid (btr HB_8.out hb); clear hb; refine Hid.out ?_))
    clear RC_8 RG_8 RT_8 RF_8 RB_8 RH_8 HB_8
    obtain ⟨z7_0, z7_1, z7_2, z7_3, z7_4, z7_5, z7_6, z7_7, z7_8, z7_9, z7_10⟩ := cells_I RB_9.out
    obtain ⟨z8_0, z8_1, z8_2, z8_3, z8_4, z8_5, z8_6, z8_7, z8_8, z8_9, z8_10⟩ := cells_I RT_9.out
    refine hid ?_
    go_wp2
    go_ret
    exact ⟨by simp, HB_9.out⟩
  · have hE4 : E0 = 40 := by
      have e0 := H0.out
      by_cases h : (0 ≤ c.si ∧ c.si ≤ 255) ∧ (0 ≤ c.ty ∧ c.ty ≤ 255) ∧ (0 ≤ c.pr ∧ c.pr ≤ 4294967295)
      · rw [if_pos h] at e0; exact absurd e0 hE
      · rw [if_neg h] at e0; exact e0
    subst hE4
    clear hE H0 H1 H2 H3 BK hc
    have HBX := hid (btr HB_2.out (ball w2 (.cells (#[.int .u8 K0, .int .u64 u0, .int .u64 u1, .int .u64 u2, .int .u64 u3, .int .u64 u4, .int .u64 u5, .int .u64 u6]) 40)))
    refine hid ?_
    go_wp2
    go_ret
    exact ⟨by simp, HBX.out⟩

set_option maxHeartbeats 4000000 in
theorem edges_walk (c : Com) (hc : c.Ok) (f : Int) (hf : -9223372036854775808 ≤ f ∧ f ≤ 9223372036854775807) (w : World) (hM : LayM w) : Calls Tryd.prog 7 #[.agg c.v, .int .i64 f] w fun e w' => e = .returned (.bool true) ∧ Below w.heap.size w w' := by
  by_cases h0 : 0 ≤ f
  · have h3 : f % 3 = 0 ∨ f % 3 = 1 ∨ f % 3 = 2 := by omega
    rcases h3 with h | h | h
    · exact edges_0 c hc f h0 h w hM
    · exact edges_1 c hc f h0 h w hM
    · exact edges_2 c hc f h0 h w hM
  · have HM := hid hM
    have LV := hid (fun w hM => lives_any w hM)
    have HB0 := hid (ball w (.cells c.v 25))
    have hfn : f < 0 := by omega
    have hfd : decide (f < 0) = true := by simpa using hfn
    clear hc hf h0 hM
    unfold Com.v at *
    go_enter Tryd.func7, Tryd.ntmps7
    go_wp2_with (first | (go_at_call 13; refine (LV.out _ (HM.out.on HB0.out)).mono ?_; rintro e w1 ⟨rfl, hb⟩; have HB1 := hid (btr HB0.out hb); clear hb; refine Hid.out ?_))
    refine hid ?_
    go_wp2_with (first | (go_at_call 13; refine (LV.out _ (HM.out.on HB1.out)).mono ?_; rintro e w2 ⟨rfl, hb⟩; have HB2 := hid (btr HB1.out hb); clear hb; refine Hid.out ?_))
    refine hid ?_
    go_wp2
    go_ret
    exact ⟨by simp, HB2.out⟩
section
open Go.ChangeShapes Go.WideShapes Go.ChangeAt Go.Joins
variable {H : Type} {enc : TypeId × Value → H} {W : World} {base b0 : Nat} {spare : Nat → Bool} {held : Bool} {r : Reach}
set_option maxRecDepth 100000 in
theorem open_com {v : Value} {d : DataW H} {p : List MemPlace} (hv : Value.okWide Tryd.prog W r b0 25 v) (h : DataW.Trod enc Tryd.prog W base spare held 25 v d p) :
    ∃ c : Com, v = .agg c.v ∧ c.Ok := by
  obtain ⟨cs, rfl, hsz⟩ := okWide_struct Tryd.underlying25 hv
  rw [cells25] at hsz
  obtain ⟨fuel, hf⟩ := h
  obtain ⟨l⟩ := cs
  match l, hsz with
  | [c1, c2, c3, c4, c5, c6, c7, c8, c9], _ =>
    obtain ⟨a1, a2, a3, a4, a5, a6, a7, a8, a9, e1, e2, e3, e4, e5, e6, e7, e8, e9, w1, w2, w3, w4, w5, w6, w7, w8, w9⟩ := open_cmd (c1 := c1) (c2 := c2) (c3 := c3) (c4 := c4) (c5 := c5) (c6 := c6) (c7 := c7) (c8 := c8) (c9 := c9) hf
    subst e1 e2 e3 e4 e5 e6 e7 e8 e9
    have b2 := bounds_u64 w2
    have b3 := bounds_u64 w3
    have b4 := bounds_u32 w4
    have b5 := bounds_i64 w5
    have b6 := bounds_i64 w6
    have b7 := bounds_i64 w7
    have b8 := bounds_u64 w8
    have b9 := bounds_u64 w9
    exact ⟨⟨a1, a2, a3, a4, a5, a6, a7, a8, a9⟩, rfl, ⟨⟨b2.1, by simp; omega⟩, ⟨b3.1, by simp; omega⟩, ⟨b4.1, by simp; omega⟩, b5, b6, b7, ⟨b8.1, by simp; omega⟩, ⟨b9.1, by simp; omega⟩⟩⟩
end
end Go.Proofs.YtjgjoohdocjpkaaDoor.Msg
namespace Go.Proofs.YtjgjoohdocjpkaaDoor.messageEdges
open Go.ChangeShapes Go.WideShapes Go.ChangeAt Go.RowKit Go.Joins
set_option linter.unusedVariables false
set_option maxRecDepth 100000 in
theorem contract (H : Type) (enc : TypeId × Value → H) (W : World) (base : Nat) (args : Array Value) (ds gs : List (DataW H)) (before : List MemPlace)
    (hval : ∀ (j : Nat) t v, Tryd.f7.params[j]? = some t → args[j]? = some v → Value.okWide Tryd.prog W .any base t v)
    (hW : DataW.Whole enc Tryd.prog Tryd.f7.params.toList Rows.messageEdgesSpec.vars false W args.toList ds gs before) (hL : laidMetH Tryd.prog Rows.messageEdgesRow.laid W) (hsh : W.ShapedOpen Tryd.prog) (hZ : (DataW.weightsEach Tryd.prog (Tryd.f7.params.toList ++ (OpenSpec.ofChange Rows.messageEdgesSpec).bare.plain.varTypes Tryd.prog) (ds ++ gs)).all (· ≤ reachBytes) = true) :
    Calls Tryd.prog 7 args W fun e W' => ∃ v, e = .returned v ∧ Rows.messageEdgesSpec.post enc Tryd.prog Tryd.f7 false true false false W args v W' := by
  have hW' := hW
  obtain ⟨p, q, hA0, hV, rfl, hfz, hnd⟩ := hW
  have hA : DataW.TrodAll enc Tryd.prog W 0 (fun _ => true) true Tryd.f7.params.toList args.toList ds p := hA0
  rw [Tryd.params7] at hA hval
  obtain ⟨v0, vs0, d0, ds0, p0, q0, hargs, rfl, rfl, h0, r0⟩ := trodAll_cons hA
  obtain ⟨v1, vs1, d1, ds1, p1, q1, rfl, rfl, rfl, h1, r1⟩ := trodAll_cons r0
  obtain ⟨rfl, rfl, rfl⟩ := trodAll_nil r1
  obtain rfl : args = #[v0, v1] := by cases args; simp_all
  obtain ⟨rfl, rfl⟩ := trodVars_none hV
  have k0 := h0
  have lt0 : ∀ x ∈ p0, x.block < W.heap.size := by obtain ⟨m, hm⟩ := k0; exact DataW.trod_lt m _ _ _ hm
  have k1 := h1
  have lt1 : ∀ x ∈ p1, x.block < W.heap.size := by obtain ⟨m, hm⟩ := k1; exact DataW.trod_lt m _ _ _ hm
  obtain ⟨c, rfl, hc⟩ := Msg.open_com (hval 0 25 v0 rfl rfl) h0
  obtain ⟨f, rfl, rfl, rfl, wf⟩ := open_int Tryd.underlying3 (hval 1 3 v1 rfl rfl) h1
  clear hA0
  refine (Msg.edges_walk c hc f (bounds_i64 wf) W ⟨lay_of hL, max_cell W hsh⟩).mono fun e W' ⟨he, bel⟩ => ?_
  subst he
  exact ⟨_, rfl, _, _, _, [], _, [], hW', trodAll_mk1 (shut_bool Tryd.underlying4 _), (trodAll_cons_mk (Below.trod laidOut (by kernel_rfl) (of_decide_eq_true (by kernel_rfl)) k0 bel lt0) (trodAll_cons_mk (Below.trod laidOut (by kernel_rfl) (of_decide_eq_true (by kernel_rfl)) k1 bel lt1) trodAll_mk0)), rfl, bel.frame _, fun h => by cases h⟩

theorem laid_met (os : Os) : laidMet Tryd.prog Rows.messageEdgesRow.laid ((laidWorld os).forCall (fun _ _ => 0) ⟨#[], #[.agg #[.int .i64 0, .int .u64 0, .int .u64 0, .int .u32 0, .int .i64 0, .int .i64 0, .int .i64 0, .int .u64 0, .int .u64 0], .int .i64 0], []⟩).memory :=
  laidMet_of_run' 8 (by kernel_rfl) (by kernel_rfl)
theorem reads (os : Os) {H : Type} (enc : TypeId × Value → H) : ∃ places, DataW.whole enc Tryd.prog ((laidWorld os).forCall (fun _ _ => 0) ⟨#[], #[.agg #[.int .i64 0, .int .u64 0, .int .u64 0, .int .u32 0, .int .i64 0, .int .i64 0, .int .i64 0, .int .u64 0, .int .u64 0], .int .i64 0], []⟩).memory Tryd.f7.params.toList Rows.messageEdgesSpec.vars false (#[.agg #[.int .i64 0, .int .u64 0, .int .u64 0, .int .u32 0, .int .i64 0, .int .i64 0, .int .i64 0, .int .u64 0, .int .u64 0], .int .i64 0] : Array Value).toList 8 = some ([.agg [.lit (.int .i64 0), .lit (.int .u64 0), .lit (.int .u64 0), .lit (.int .u32 0), .lit (.int .i64 0), .lit (.int .i64 0), .lit (.int .i64 0), .lit (.int .u64 0), .lit (.int .u64 0)], .lit (.int .i64 0)], [], places) :=
  ⟨[], by kernel_rfl⟩

set_option maxRecDepth 100000 in
theorem lifted (os : Os) (started : os.Started) (H : Type) (enc : TypeId × Value → H) (F : Stop.Interp) :
    ReturnsInHanded {} Tryd.checked os 7 .any ((OpenSpec.ofChange Rows.messageEdgesSpec).preRow enc Tryd.prog Tryd.f7 Rows.messageEdgesRow.domain false Rows.messageEdgesRow.laid) (((OpenSpec.ofChange Rows.messageEdgesSpec).at F).post enc Tryd.prog Tryd.f7 false true false false) := by
  obtain ⟨places, hx⟩ := reads os enc
  refine returnsInHanded_of_row (C := Tryd.checked) (s := OpenSpec.ofChange Rows.messageEdgesSpec) own started (by kernel_rfl) Tryd.func7
    (witness_row_at (enc := enc) (C := Tryd.checked) false (laidWorld os) #[.agg #[.int .i64 0, .int .u64 0, .int .u64 0, .int .u32 0, .int .i64 0, .int .i64 0, .int .i64 0, .int .u64 0, .int .u64 0], .int .i64 0] rfl (by kernel_rfl) (by kernel_rfl) (by kernel_rfl)
      (OpenSpec.preRow_of_cond 8 hx (by kernel_rfl) (fun k hk => by cases hk) (by kernel_rfl) (laid_met os))) ?_
  intro W base args ds gs before hval hW _ _ hZ hL hsh _
  exact contract H enc W base args ds gs before hval hW hL hsh hZ

theorem said : Rows.MessageEdgesSaid :=
  OpenClaim.holds_of_cond 7 Tryd.f7 rfl rfl rfl rfl rfl rfl rfl ⟨rfl, rfl, rfl, rfl, rfl⟩ rfl rfl rfl rfl rfl (by kernel_rfl) Tryd.func7 (by kernel_rfl)
    (of_decide_eq_true (by kernel_rfl)) (by unfold Func.isWrapper; first | (rw [if_pos (by decide +kernel)]; kernel_rfl) | (rw [if_neg (by decide +kernel)]; exact ⟨rfl, rfl⟩))
    (fun os started H enc _ F => by rw [OpenClaim.pre_eq_preRow]; exact lifted os started H enc F)

theorem plain (f : FuncId) (fn : Func) (hf : Tryd.pinned.checked.prog.funcNamed "bourse/bourselaw04.MessageEdges" = some f) (hfn : Tryd.pinned.checked.prog.funcs[f]? = some fn) :
    true = Tryd.pinned.checked.prog.looks [] ∧ ∀ (j : Nat) t, fn.params[j]? = some t → Tryd.pinned.checked.prog.wantsStandIn t = false := by
  obtain rfl : f = 7 := Option.some.inj ((show Tryd.prog.funcNamed "bourse/bourselaw04.MessageEdges" = some 7 by kernel_rfl).symm.trans hf) |>.symm
  obtain rfl : fn = Tryd.f7 := (Option.some.inj (Tryd.func7.symm.trans hfn)).symm
  refine ⟨by kernel_rfl, fun j t ht => ?_⟩
  rw [Tryd.params7] at ht
  have hm : t = 25 ∨ t = 3 := by simpa using Array.mem_of_getElem? ht
  rcases hm with rfl | rfl
  · exact (show Tryd.prog.wantsStandIn 25 = false by kernel_rfl)
  · exact (show Tryd.prog.wantsStandIn 3 = false by kernel_rfl)

theorem card : Rows.MessageEdgesCardSaid :=
  Claim7.holds_tied_plain_at .later [] _ _ _ _ said (fun _ h => by cases h) (by kernel_rfl) (fun _ h => by cases h) messageEdges_row_tie rfl ⟨rfl, rfl⟩ (by kernel_rfl) rfl plain (by kernel_rfl)
end Go.Proofs.YtjgjoohdocjpkaaDoor.messageEdges
namespace Go.Proofs.YtjgjoohdocjpkaaDoor
theorem messageEdges_holds : Rows.MessageEdgesCardSaid := messageEdges.card
#print axioms messageEdges_holds
end Go.Proofs.YtjgjoohdocjpkaaDoor
