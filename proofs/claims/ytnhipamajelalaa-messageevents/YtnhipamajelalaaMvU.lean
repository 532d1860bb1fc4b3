/-
  MessageEvents: the walk; events that came in.
-/
import Derived.Test.YtnhipamajelalaaMvT
import Derived.Test.YtnhipamajelalaaMgU
namespace Go.Proofs.Ytnhipamajelalaa
open Go.ChangeShapes Go.WideShapes Go.ChangeAt Go.RowKit Go.Joins Go.Maps Go.Deep Go.Lib
set_option linter.unusedVariables false
set_option linter.unusedSimpArgs false

section
variable {H : Type} {enc : TypeId × Value → H} {W : World} {base b0 : Nat} {spare : Nat → Bool} {held : Bool} {r : Reach}
/-- an event that came in. -/
theorem open_evt {v : Value} {d : DataW H} {p : List MemPlace} (hv : Value.okWide Try.prog W r b0 39 v) (h : DataW.Trod enc Try.prog W base spare held 39 v d p) :
    ∃ x : Evt, v = .agg x.v ∧ x.Ok ∧ x.Rg := by
  obtain ⟨cs, rfl, hsz⟩ := okWide_struct Try.underlying39 hv
  rw [cells39] at hsz
  obtain ⟨fuel, hf⟩ := h
  obtain ⟨xs, m, _, _, _, hlen, hg0⟩ := DataW.trod_struct Try.underlying39 hf
  obtain ⟨l⟩ := cs
  match l, hsz with
  | [c0, c1, c2, c3, c4, c5, c6, c7, c8, c9, c10, c11, c12], _ =>
    have hg : ∀ (i : Nat) (f : Field), _ → DataW.trod enc Try.prog W base spare held m f.type (([c0, c1, c2, c3, c4, c5, c6, c7, c8, c9, c10, c11, c12].drop f.offset).take (Try.prog.cellsOf f.type)) = xs[i]? := hg0
    have g0 : DataW.trod enc Try.prog W base spare held m 22 (([c0, c1, c2, c3, c4, c5, c6, c7, c8, c9, c10, c11, c12].drop 0).take (Try.prog.cellsOf 22)) = xs[0]? := hg 0 _ rfl
    rw [List.getElem?_eq_getElem (by rw [hlen]; exact (by decide : 0 < 13)), cells22] at g0
    simp only [List.drop_zero, List.take_succ_cons, List.take_zero, List.drop_succ_cons] at g0
    obtain ⟨a0, e0, _, wf0⟩ := DataW.trod_int Try.underlying22 g0
    have g1 : DataW.trod enc Try.prog W base spare held m 3 (([c0, c1, c2, c3, c4, c5, c6, c7, c8, c9, c10, c11, c12].drop 1).take (Try.prog.cellsOf 3)) = xs[1]? := hg 1 _ rfl
    rw [List.getElem?_eq_getElem (by rw [hlen]; exact (by decide : 1 < 13)), cells3] at g1
    simp only [List.drop_zero, List.take_succ_cons, List.take_zero, List.drop_succ_cons] at g1
    obtain ⟨a1, e1, _, wf1⟩ := DataW.trod_int Try.underlying3 g1
    have g2 : DataW.trod enc Try.prog W base spare held m 22 (([c0, c1, c2, c3, c4, c5, c6, c7, c8, c9, c10, c11, c12].drop 2).take (Try.prog.cellsOf 22)) = xs[2]? := hg 2 _ rfl
    rw [List.getElem?_eq_getElem (by rw [hlen]; exact (by decide : 2 < 13)), cells22] at g2
    simp only [List.drop_zero, List.take_succ_cons, List.take_zero, List.drop_succ_cons] at g2
    obtain ⟨a2, e2, _, wf2⟩ := DataW.trod_int Try.underlying22 g2
    have g3 : DataW.trod enc Try.prog W base spare held m 22 (([c0, c1, c2, c3, c4, c5, c6, c7, c8, c9, c10, c11, c12].drop 3).take (Try.prog.cellsOf 22)) = xs[3]? := hg 3 _ rfl
    rw [List.getElem?_eq_getElem (by rw [hlen]; exact (by decide : 3 < 13)), cells22] at g3
    simp only [List.drop_zero, List.take_succ_cons, List.take_zero, List.drop_succ_cons] at g3
    obtain ⟨a3, e3, _, wf3⟩ := DataW.trod_int Try.underlying22 g3
    have g4 : DataW.trod enc Try.prog W base spare held m 22 (([c0, c1, c2, c3, c4, c5, c6, c7, c8, c9, c10, c11, c12].drop 4).take (Try.prog.cellsOf 22)) = xs[4]? := hg 4 _ rfl
    rw [List.getElem?_eq_getElem (by rw [hlen]; exact (by decide : 4 < 13)), cells22] at g4
    simp only [List.drop_zero, List.take_succ_cons, List.take_zero, List.drop_succ_cons] at g4
    obtain ⟨a4, e4, _, wf4⟩ := DataW.trod_int Try.underlying22 g4
    have g5 : DataW.trod enc Try.prog W base spare held m 23 (([c0, c1, c2, c3, c4, c5, c6, c7, c8, c9, c10, c11, c12].drop 5).take (Try.prog.cellsOf 23)) = xs[5]? := hg 5 _ rfl
    rw [List.getElem?_eq_getElem (by rw [hlen]; exact (by decide : 5 < 13)), cells23] at g5
    simp only [List.drop_zero, List.take_succ_cons, List.take_zero, List.drop_succ_cons] at g5
    obtain ⟨a5, e5, _, wf5⟩ := DataW.trod_int Try.underlying23 g5
    have g6 : DataW.trod enc Try.prog W base spare held m 3 (([c0, c1, c2, c3, c4, c5, c6, c7, c8, c9, c10, c11, c12].drop 6).take (Try.prog.cellsOf 3)) = xs[6]? := hg 6 _ rfl
    rw [List.getElem?_eq_getElem (by rw [hlen]; exact (by decide : 6 < 13)), cells3] at g6
    simp only [List.drop_zero, List.take_succ_cons, List.take_zero, List.drop_succ_cons] at g6
    obtain ⟨a6, e6, _, wf6⟩ := DataW.trod_int Try.underlying3 g6
    have g7 : DataW.trod enc Try.prog W base spare held m 3 (([c0, c1, c2, c3, c4, c5, c6, c7, c8, c9, c10, c11, c12].drop 7).take (Try.prog.cellsOf 3)) = xs[7]? := hg 7 _ rfl
    rw [List.getElem?_eq_getElem (by rw [hlen]; exact (by decide : 7 < 13)), cells3] at g7
    simp only [List.drop_zero, List.take_succ_cons, List.take_zero, List.drop_succ_cons] at g7
    obtain ⟨a7, e7, _, wf7⟩ := DataW.trod_int Try.underlying3 g7
    have g8 : DataW.trod enc Try.prog W base spare held m 3 (([c0, c1, c2, c3, c4, c5, c6, c7, c8, c9, c10, c11, c12].drop 8).take (Try.prog.cellsOf 3)) = xs[8]? := hg 8 _ rfl
    rw [List.getElem?_eq_getElem (by rw [hlen]; exact (by decide : 8 < 13)), cells3] at g8
    simp only [List.drop_zero, List.take_succ_cons, List.take_zero, List.drop_succ_cons] at g8
    obtain ⟨a8, e8, _, wf8⟩ := DataW.trod_int Try.underlying3 g8
    have g9 : DataW.trod enc Try.prog W base spare held m 22 (([c0, c1, c2, c3, c4, c5, c6, c7, c8, c9, c10, c11, c12].drop 9).take (Try.prog.cellsOf 22)) = xs[9]? := hg 9 _ rfl
    rw [List.getElem?_eq_getElem (by rw [hlen]; exact (by decide : 9 < 13)), cells22] at g9
    simp only [List.drop_zero, List.take_succ_cons, List.take_zero, List.drop_succ_cons] at g9
    obtain ⟨a9, e9, _, wf9⟩ := DataW.trod_int Try.underlying22 g9
    have g10 : DataW.trod enc Try.prog W base spare held m 22 (([c0, c1, c2, c3, c4, c5, c6, c7, c8, c9, c10, c11, c12].drop 10).take (Try.prog.cellsOf 22)) = xs[10]? := hg 10 _ rfl
    rw [List.getElem?_eq_getElem (by rw [hlen]; exact (by decide : 10 < 13)), cells22] at g10
    simp only [List.drop_zero, List.take_succ_cons, List.take_zero, List.drop_succ_cons] at g10
    obtain ⟨a10, e10, _, wf10⟩ := DataW.trod_int Try.underlying22 g10
    have g11 : DataW.trod enc Try.prog W base spare held m 3 (([c0, c1, c2, c3, c4, c5, c6, c7, c8, c9, c10, c11, c12].drop 11).take (Try.prog.cellsOf 3)) = xs[11]? := hg 11 _ rfl
    rw [List.getElem?_eq_getElem (by rw [hlen]; exact (by decide : 11 < 13)), cells3] at g11
    simp only [List.drop_zero, List.take_succ_cons, List.take_zero, List.drop_succ_cons] at g11
    obtain ⟨a11, e11, _, wf11⟩ := DataW.trod_int Try.underlying3 g11
    have g12 : DataW.trod enc Try.prog W base spare held m 31 (([c0, c1, c2, c3, c4, c5, c6, c7, c8, c9, c10, c11, c12].drop 12).take (Try.prog.cellsOf 31)) = xs[12]? := hg 12 _ rfl
    rw [List.getElem?_eq_getElem (by rw [hlen]; exact (by decide : 12 < 13)), cells31] at g12
    simp only [List.drop_zero, List.take_succ_cons, List.take_zero, List.drop_succ_cons] at g12
    obtain ⟨a12, e12, _, wf12⟩ := DataW.trod_int Try.underlying31 g12

    simp at e0 e1 e2 e3 e4 e5 e6 e7 e8 e9 e10 e11 e12
    subst e0 e1 e2 e3 e4 e5 e6 e7 e8 e9 e10 e11 e12
    have bd0 := bounds_u64 wf0
    have bd1 := bounds_i64 wf1
    have bd2 := bounds_u64 wf2
    have bd3 := bounds_u64 wf3
    have bd4 := bounds_u64 wf4
    have bd5 := bounds_u32 wf5
    have bd6 := bounds_i64 wf6
    have bd7 := bounds_i64 wf7
    have bd8 := bounds_i64 wf8
    have bd9 := bounds_u64 wf9
    have bd10 := bounds_u64 wf10
    have bd11 := bounds_i64 wf11
    have bd12 := bounds_i64 wf12

    exact ⟨⟨a0, a1, a2, a3, a4, a5, a6, a7, a8, a9, a10, a11, a12⟩, rfl, ⟨⟨bd0.1, by simp; omega⟩, ⟨bd2.1, by simp; omega⟩, ⟨bd3.1, by simp; omega⟩, ⟨bd4.1, by simp; omega⟩, ⟨bd5.1, by simp; omega⟩, ⟨bd9.1, by simp; omega⟩, ⟨bd10.1, by simp; omega⟩⟩, ⟨⟨bd6.1, by simp; omega⟩, ⟨bd7.1, by simp; omega⟩, ⟨bd8.1, by simp; omega⟩, ⟨bd11.1, by simp; omega⟩, ⟨bd12.1, by simp; omega⟩⟩⟩
end
set_option maxHeartbeats 4000000 in
set_option maxRecDepth 100000 in
theorem events_walk (x : Evt) (hx : x.Ok) (hr : x.Rg) (k a0 a1 a2 a3 a4 a5 a6 : Int) (hk : 0 ≤ k ∧ k < 256) (ha : ∀ x ∈ [a0, a1, a2, a3, a4, a5, a6], Wd x) (w : World) : Calls Try.prog 5 #[.agg x.v, .agg (frV k [a0, a1, a2, a3, a4, a5, a6])] w fun e w' => e = .returned (.bool true) ∧ Below w.heap.size w w' := by
  have PA := hid (fun w => packE_any x hx w)
  have RA := hid (fun w => rpackE_any x hx hr w)
  have UA := hid (fun w => unpackE_any k a0 a1 a2 a3 a4 a5 a6 hk.1 hk.2 ha w)
  have SA := hid (fun w => runpackE_any k a0 a1 a2 a3 a4 a5 a6 hk.1 hk.2 ha w)
  obtain ⟨b0, b1, b2, b3, b4, b5, b6, hl⟩ := list7 (pwE_len x)
  rw [hl] at PA RA
  obtain ⟨K, hK⟩ : ∃ k, x.pk = k := ⟨_, rfl⟩
  obtain ⟨E, hE⟩ : ∃ k, x.e = k := ⟨_, rfl⟩
  rw [hK, hE] at PA RA
  have hfb : frV K [b0, b1, b2, b3, b4, b5, b6] = #[.int .u8 K, .int .u64 b0, .int .u64 b1, .int .u64 b2, .int .u64 b3, .int .u64 b4, .int .u64 b5, .int .u64 b6] := rfl
  rw [hfb] at PA RA
  have q := eqFr_same K b0 b1 b2 b3 b4 b5 b6
  have HI := hid (show ((w.alloc (.cells x.v 39)).alloc (.cells (frV k [a0, a1, a2, a3, a4, a5, a6]) 30)).heap[w.heap.size]? = some (.cells x.v 39 (0, 0)) from row_on (heap_alloc_new _ _) (ball _ _))
  have HJ := hid (heap2 w (.cells x.v 39) (.cells (frV k [a0, a1, a2, a3, a4, a5, a6]) 30))
  have hfa : frV k [a0, a1, a2, a3, a4, a5, a6] = #[.int .u8 k, .int .u64 a0, .int .u64 a1, .int .u64 a2, .int .u64 a3, .int .u64 a4, .int .u64 a5, .int .u64 a6] := rfl
  obtain ⟨Y, hY⟩ : ∃ y, uqI k [a0, a1, a2, a3, a4, a5, a6] = y := ⟨_, rfl⟩
  obtain ⟨D, hD⟩ : ∃ y, uqE k [a0, a1, a2, a3, a4, a5, a6] = y := ⟨_, rfl⟩
  rw [hfa, hY, hD] at UA SA
  rw [hfa]
  have q2 := eqE_yes Y.sq Y.kd Y.id Y.ot Y.tg Y.me Y.si Y.ty Y.pr Y.qt Y.pe Y.re Y.co Y.sq Y.kd Y.id Y.ot Y.tg Y.me Y.si Y.ty Y.pr Y.qt Y.pe Y.re Y.co rfl
  unfold Evt.v eV at PA RA UA SA
  unfold Evt.v eV
  unfold eV at q2
  clear hY hD hfa hk ha hl hK hE hfb hx hr
  go_enter Try.func5, Try.ntmps5
  go_wp2_with (first | (go_at_call 10; refine (PA.out _).mono ?_; rintro e w2 ⟨rfl, hb⟩; have HB2 := hid hb; clear hb; refine Hid.out ?_))
  have I2 := hid (show (w2.alloc (.cells (frV K [b0, b1, b2, b3, b4, b5, b6]) 30)).heap[w.heap.size]? = some (.cells x.v 39 (0, 0)) from row_on (row_on HI.out HB2.out) (ball _ _))
  have J2 := hid (show (w2.alloc (.cells (frV K [b0, b1, b2, b3, b4, b5, b6]) 30)).heap[w.heap.size + 1]? = some (.cells (frV k [a0, a1, a2, a3, a4, a5, a6]) 30 (0, 0)) from row_on (row_on HJ.out HB2.out) (ball _ _))
  have R2 := hid (show (w2.alloc (.cells (frV K [b0, b1, b2, b3, b4, b5, b6]) 30)).heap[w2.heap.size]? = some (.cells (frV K [b0, b1, b2, b3, b4, b5, b6]) 30 (0, 0)) from heap_alloc_new _ _)
  have B2 := hid (show Below w.heap.size w (w2.alloc (.cells (frV K [b0, b1, b2, b3, b4, b5, b6]) 30)) from btr (btr (btr (ball _ _) (ball _ _)) HB2.out) (ball _ _))
  have hfb : frV K [b0, b1, b2, b3, b4, b5, b6] = #[.int .u8 K, .int .u64 b0, .int .u64 b1, .int .u64 b2, .int .u64 b3, .int .u64 b4, .int .u64 b5, .int .u64 b6] := rfl
  rw [hfb] at I2 J2 R2 B2
  obtain ⟨c0, c1, c2, c3, c4, c5, c6, c7, c8, c9, c10, c11, c12⟩ := cells_E I2.out
  clear HI HJ HB2 PA
  refine hid ?_
  go_wp2_with (first | (go_at_call 11; refine (RA.out _).mono ?_; rintro e w3 ⟨rfl, hb⟩; have HB3 := hid hb; clear hb; refine Hid.out ?_))
  have J3 := hid (show (w3.alloc (.cells (frV K [b0, b1, b2, b3, b4, b5, b6]) 30)).heap[w.heap.size + 1]? = some (.cells (frV k [a0, a1, a2, a3, a4, a5, a6]) 30 (0, 0)) from row_on (row_on J2.out HB3.out) (ball _ _))
  have R3 := hid (show (w3.alloc (.cells (frV K [b0, b1, b2, b3, b4, b5, b6]) 30)).heap[w2.heap.size]? = some (.cells (frV K [b0, b1, b2, b3, b4, b5, b6]) 30 (0, 0)) from row_on (row_on R2.out HB3.out) (ball _ _))
  have S3 := hid (show (w3.alloc (.cells (frV K [b0, b1, b2, b3, b4, b5, b6]) 30)).heap[w3.heap.size]? = some (.cells (frV K [b0, b1, b2, b3, b4, b5, b6]) 30 (0, 0)) from heap_alloc_new _ _)
  have B3 := hid (show Below w.heap.size w (w3.alloc (.cells (frV K [b0, b1, b2, b3, b4, b5, b6]) 30)) from btr (btr B2.out HB3.out) (ball _ _))
  rw [hfb] at J3 R3 S3 B3
  obtain ⟨d0, d1, d2, d3, d4, d5, d6, d7⟩ := cells_F J3.out
  clear I2 J2 R2 B2 HB3 RA c0 c1 c2 c3 c4 c5 c6 c7 c8 c9 c10 c11 c12
  refine hid ?_
  go_wp2_with (first | (go_at_call 12; refine (UA.out _).mono ?_; rintro e w4 ⟨rfl, hb⟩; have HB4 := hid hb; clear hb; refine Hid.out ?_))
  have J4 := hid (show (w4.alloc (.cells Y.v 39)).heap[w.heap.size + 1]? = some (.cells (frV k [a0, a1, a2, a3, a4, a5, a6]) 30 (0, 0)) from row_on (row_on J3.out HB4.out) (ball _ _))
  have R4 := hid (show (w4.alloc (.cells Y.v 39)).heap[w2.heap.size]? = some (.cells (frV K [b0, b1, b2, b3, b4, b5, b6]) 30 (0, 0)) from row_on (row_on R3.out HB4.out) (ball _ _))
  have S4 := hid (show (w4.alloc (.cells Y.v 39)).heap[w3.heap.size]? = some (.cells (frV K [b0, b1, b2, b3, b4, b5, b6]) 30 (0, 0)) from row_on (row_on S3.out HB4.out) (ball _ _))
  have T4 := hid (show (w4.alloc (.cells Y.v 39)).heap[w4.heap.size]? = some (.cells Y.v 39 (0, 0)) from heap_alloc_new _ _)
  have B4 := hid (show Below w.heap.size w (w4.alloc (.cells Y.v 39)) from btr (btr B3.out HB4.out) (ball _ _))
  unfold Evt.v eV at J4 R4 S4 T4 B4
  obtain ⟨e0, e1, e2, e3, e4, e5, e6, e7⟩ := cells_F J4.out
  clear J3 R3 S3 B3 HB4 UA d0 d1 d2 d3 d4 d5 d6 d7
  refine hid ?_
  go_wp2_with (first | (go_at_call 13; refine (SA.out _).mono ?_; rintro e w5 ⟨rfl, hb⟩; have HB5 := hid hb; clear hb; refine Hid.out ?_))
  have R5 := hid (show (w5.alloc (.cells Y.v 39)).heap[w2.heap.size]? = some (.cells (frV K [b0, b1, b2, b3, b4, b5, b6]) 30 (0, 0)) from row_on (row_on R4.out HB5.out) (ball _ _))
  have S5 := hid (show (w5.alloc (.cells Y.v 39)).heap[w3.heap.size]? = some (.cells (frV K [b0, b1, b2, b3, b4, b5, b6]) 30 (0, 0)) from row_on (row_on S4.out HB5.out) (ball _ _))
  have T5 := hid (show (w5.alloc (.cells Y.v 39)).heap[w4.heap.size]? = some (.cells Y.v 39 (0, 0)) from row_on (row_on T4.out HB5.out) (ball _ _))
  have B5 := hid (show Below w.heap.size w (w5.alloc (.cells Y.v 39)) from btr (btr B4.out HB5.out) (ball _ _))
  unfold Evt.v eV at R5 S5 T5 B5
  obtain ⟨r0, r1, r2, r3, r4, r5, r6, r7⟩ := cells_F R5.out
  obtain ⟨s0, s1, s2, s3, s4, s5, s6, s7⟩ := cells_F S5.out
  obtain ⟨t0, t1, t2, t3, t4, t5, t6, t7, t8, t9, t10, t11, t12⟩ := cells_E T5.out
  clear J4 R4 S4 T4 B4 HB5 SA e0 e1 e2 e3 e4 e5 e6 e7 R5 S5 T5
  refine hid ?_
  go_wp2
  go_ret
  exact ⟨by simp, B5.out⟩
end Go.Proofs.Ytnhipamajelalaa
