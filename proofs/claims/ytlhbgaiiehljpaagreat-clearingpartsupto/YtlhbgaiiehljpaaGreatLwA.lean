/-
  LwA
-/
import Derived.Test.YtlhbgaiiehljpaaGreatGg
namespace Go.Proofs.YtlhbgaiiehljpaaGreat.Ac
open Go.RowKit Go.Deep Go.Maps MonM Go.Proofs.YtlhbgaiiehljpaaGreat
set_option linter.unusedVariables false
set_option linter.unusedSimpArgs false
set_option maxHeartbeats 8000000
set_option maxRecDepth 100000
attribute [local go_sem ↓] Go.wp_at_zero Go.wp_at_succ
/-- the walk, to the second example. -/
theorem fz1 (X : World) (g : Nat) (h : X.heap[g]? = some (.cells #[.int .u32 5, .int .u64 10, .int .u32 6, .int .u64 30] 52 (0, 0))) : Ss.Fz X (some ⟨g, 0, none⟩) [⟨5, 10⟩, ⟨6, 30⟩] := by
  intro i hi
  have hl := row_lt h
  match i, hi with
  | 0, _ => exact ⟨g, 0, rfl, hl, row_cell h 0, row_cell h 1⟩
  | 1, _ => exact ⟨g, 0, rfl, hl, row_cell h 2, row_cell h 3⟩
theorem j1 {H : Nat} (w : World) (h : Ho w H 1000 none 0 [] none 0 (fun _ => none)) :
    Calls Tryz.prog 15 #[pb H, .agg #[.int .u32 1, .int .u64 500]] w fun e w' => ∃ b g d, e = .returned (.int .i64 0) ∧ Ho w' H 1000 (some ⟨g, 0, none⟩) d [(b, ⟨1, 500, 0, false, false⟩)] none 0 (fun _ => none) ∧ Kp (fun j => j = H) w w' ∧ w.heap.size ≤ b ∧ w.heap.size ≤ g := by
  refine (join_any 1 500 w h (by decide) (fun y hy => by cases hy) (by decide) (by decide) (by decide) (by decide) (by decide)).mono ?_
  rintro e w' ⟨rfl, b, g, d, h1, h2, h3, h4⟩
  refine ⟨b, g, d, rfl, h1, h2.mono (fun j _ hj => ?_), h3, h4.resolve_left (fun e => ?_)⟩
  · rcases hj with rfl | ⟨a, e, _⟩ | hj | hj
    · rfl
    · cases e
    · cases hj
    · cases hj
  · have e : (none : Option Addr) = some _ := e
    cases e
theorem j2 {H g d b : Nat} (w : World) (h : Ho w H 1000 (some ⟨g, 0, none⟩) d [(b, ⟨1, 500, 0, false, false⟩)] none 0 (fun _ => none)) :
    Calls Tryz.prog 15 #[pb H, .agg #[.int .u32 2, .int .u64 500]] w fun e w' => ∃ b2 g2 d2, e = .returned (.int .i64 0) ∧ Ho w' H 1000 (some ⟨g2, 0, none⟩) d2 [(b, ⟨1, 500, 0, false, false⟩), (b2, ⟨2, 500, 0, false, false⟩)] none 0 (fun _ => none) ∧ Kp (fun j => j = H ∨ j = g ∨ j = b) w w' ∧ w.heap.size ≤ b2 ∧ (g2 = g ∨ w.heap.size ≤ g2) := by
  refine (join_any 2 500 w h (by decide) (fun y hy => ?_) (by decide) (by decide) ?_ ?_ (by simp)).mono ?_
  · simp at hy
    subst hy
    exact (by decide : (1 : Int) < 2)
  · show (0 : Int) ≤ (0 + 500) % 18446744073709551616
    decide
  · show ((0 : Int) + 500) % 18446744073709551616 + 500 ≤ 9223372036854775808
    decide
  rintro e w' ⟨rfl, b2, g2, d2, h1, h2, h3, h4⟩
  refine ⟨b2, g2, d2, rfl, h1, h2.mono (fun j _ hj => ?_), h3, ?_⟩
  · rcases hj with rfl | ⟨a, e, rfl⟩ | hj | hj
    · exact .inl rfl
    · cases e; exact .inr (.inl rfl)
    · simp [bks] at hj; exact .inr (.inr hj)
    · cases hj
  · rcases h4 with e | e
    · have e : (some ⟨g, 0, none⟩ : Option Addr) = some ⟨g2, 0, none⟩ := e
      cases e
      exact .inl rfl
    · exact .inr e
theorem tk {H g d b1 b2 : Nat} (w : World) (h : Ho w H 1000 (some ⟨g, 0, none⟩) d [(b1, ⟨1, 500, 0, false, false⟩), (b2, ⟨2, 500, 0, false, false⟩)] none 0 (fun _ => none)) :
    Calls Tryz.prog 16 #[pb H, .agg #[.int .u32 7, .int .u32 1, .int .u32 2, .int .i64 1, .int .i64 500, .int .u64 10]] w fun e w' => ∃ b, e = .returned (.int .i64 0) ∧ w.heap.size ≤ b ∧ Ho w' H 1000 (some ⟨g, 0, none⟩) d (lA b1 b2) (some b) 2 (F2 pA pB) ∧ Kp (fun j => j = H) w w' := by
  refine (take_first ⟨7, 1, 2, 1, 500, 10⟩ w h (List.mem_cons_self ..) (List.mem_cons_of_mem _ (List.mem_cons_self ..)) rfl rfl rfl rfl (by decide) ⟨u32l (by decide) (by decide), u32l (by decide) (by decide), u32l (by decide) (by decide), ⟨by decide, by decide⟩, ⟨by decide, by decide⟩, ⟨by decide, by decide⟩⟩ (by decide)).mono ?_
  rintro e w' ⟨rfl, b, h1, h2, h3⟩
  refine ⟨b, rfl, h1, ?_, h3⟩
  rw [← F2_new]
  exact h2
theorem lives_ok (w : World) : Calls Tryz.prog 5 #[] w fun e w' => e = .returned (.bool true) ∧ Below w.heap.size w w' := by
  obtain ⟨W1, hW1⟩ : ∃ W, w.alloc (.cells #[.int .u32 5, .int .u64 10, .int .u32 6, .int .u64 30] 52) = W := ⟨_, rfl⟩
  obtain ⟨g1, hg1⟩ : ∃ g, w.heap.size = g := ⟨_, rfl⟩
  have B1 := hid (show Below w.heap.size w W1 from by rw [← hW1]; exact ball _ _)
  have R1 := hid (show W1.heap[g1]? = some (.cells #[.int .u32 5, .int .u64 10, .int .u32 6, .int .u64 30] 52 (0, 0)) from by rw [← hW1, ← hg1]; exact World.alloc_heap_new _ _)
  have CB := hid (Ss.bear_any 100 30 50 [⟨5, 10⟩, ⟨6, 30⟩] 2 (some ⟨g1, 0, none⟩) 2 W1 ⟨by decide, by decide⟩ ⟨by decide, by decide⟩ ⟨by decide, by decide⟩ (fun x hx => by
    simp at hx
    rcases hx with rfl | rfl
    · exact ⟨by decide, by decide⟩
    · exact ⟨by decide, by decide⟩) rfl (by decide) (fz1 W1 g1 R1.out))
  go_enter Tryz.func5, Tryz.ntmps5
  go_upto_region 1 with fail
  go_upto_region 2 with (clear hW1; go_at_call 13; refine CB.out.mono ?_; rintro e w2 ⟨er, o, h, lf, p, l, rfl, h1, h2, h3⟩; obtain ⟨e1, e2, e3, e4, e5⟩ := h1.uniq cvr1; subst e1; subst e2; subst e3; subst e4; subst e5; have F2 := hid h2; have B2 := hid h3; clear h1 h2 h3)
  obtain ⟨q, hq, -, hu⟩ : ∃ g, p = some ⟨g, 0, none⟩ ∧ W1.heap.size ≤ g ∧ Ss.Uw w2 g 2 [5, 15] := by
    rcases F2.out with ⟨-, h⟩ | ⟨g, e, h1, h2⟩
    · cases h
    · exact ⟨g, e, h1, h2⟩
  subst hq
  obtain ⟨W3, hW3⟩ : ∃ W, w2.alloc (.cells #[.int .u64 30, .int .u64 50, .slice (some ⟨q, 0, none⟩) 2 2, .int .u64 0] 48) = W := ⟨_, rfl⟩
  have B3 := hid (show Below w2.heap.size w2 W3 from by rw [← hW3]; exact ball _ _)
  have R3 := hid (show W3.heap[w2.heap.size]? = some (.cells #[.int .u64 30, .int .u64 50, .slice (some ⟨q, 0, none⟩) 2 2, .int .u64 0] 48 (0, 0)) from by rw [← hW3]; exact World.alloc_heap_new _ _)
  have U3 := hu.on B3.out
  have u0 : W3.cell? ⟨q, 0, none⟩ = some (.int .u64 5) := U3.cell (i := 0) (by decide)
  have u1 : W3.cell? ⟨q, 1, none⟩ = some (.int .u64 15) := U3.cell (i := 1) (by decide)
  rw [hW3]
  obtain ⟨g3, hg3⟩ : ∃ g, w2.heap.size = g := ⟨_, rfl⟩
  rw [hg3] at R3 ⊢
  clear hu U3 hW3 hg3 F2
  have c0 := row_cell R3.out 0
  have c1 := row_cell R3.out 1
  have c2 := row_cell R3.out 2
  have c3 := row_cell R3.out 3
  simp only [List.getElem?_toArray, List.getElem?_cons_succ, List.getElem?_cons_zero] at c0 c1 c2 c3
  go_upto_region 4 with fail
  have CN := hid (new_any 1000 W3)
  clear u0 u1 c0 c1 c2 c3 R3
  go_upto_region 5 with (go_at_call 14; with_reducible refine CN.out.mono ?_; rintro e w4 ⟨rfl, h1, h2⟩; have HO4 := hid h1; have B4 := hid h2; clear h1 h2)
  have J1 := hid (j1 w4 HO4.out)
  go_upto_region 7 with (first
    | (go_at_call 15; with_reducible refine J1.out.mono ?_; rintro e w5 ⟨b1, gA, dA, rfl, h1, h2, h3, h4⟩; have HO5 := hid h1; have K5 := hid h2; have L5 := hid h3; have M5 := hid h4; clear h1 h2 h3 h4; have J2 := hid (j2 w5 HO5.out))
    | (go_at_call 15; with_reducible refine J2.out.mono ?_; rintro e w6 ⟨b2, gB, dB, rfl, h1, h2, h3, h4⟩; have HO6 := hid h1; have K6 := hid h2; have L6 := hid h3; have M6 := hid h4; clear h1 h2 h3 h4; have JT := hid (tk w6 HO6.out))
    | (go_at_call 16; with_reducible refine JT.out.mono ?_; rintro e w7 ⟨b, rfl, h1, h2, h3⟩; have HO7 := hid h2; have L7 := hid h1; have K7 := hid h3; clear h1 h2 h3))
  obtain ⟨W8, hW8⟩ : ∃ W, w7.alloc (.cells #[.int .u32 7, .int .i64 400, .int .u32 1, .int .u32 10] 61) = W := ⟨_, rfl⟩
  have B8 := hid (show Below w7.heap.size w7 W8 from by rw [← hW8]; exact ball _ _)
  obtain ⟨R, hR⟩ : ∃ g, w7.heap.size = g := ⟨_, rfl⟩
  have R8 := hid (show W8.heap[R]? = some (.cells #[.int .u32 7, .int .i64 400, .int .u32 1, .int .u32 10] 61 (0, 0)) from by rw [← hW8, ← hR]; exact World.alloc_heap_new _ _)
  have NR := hid (HO7.out.on B8.out |>.ne R8.out (by decide) (by decide) (by decide))
  have CA := hid (closeA W8 (HO7.out.on B8.out) R R8.out)
  go_upto_region 8 with fail
  clear hW8
  go_upto_region 9 with (go_at_call 17; with_reducible refine CA.out.mono ?_; rintro e w9 ⟨qc, dc, rfl, h1, h2, h3⟩; have OC9 := hid h1; have HO9 := hid h2; have K9 := hid h3; clear h1 h2 h3)
  have RR9 := hid (K9.out.row R8.out NR.out)
  obtain ⟨gc, hgc, ty9⟩ : ∃ g, qc = some ⟨g, 0, none⟩ ∧ ∃ cur, w9.heap[g]? = some (.cells cur 68 (0, 0)) := by
    obtain ⟨_, ⟨e1, _⟩ | ⟨g', c', cur, e', r1, r2, _⟩⟩ := OC9.out
    · cases (Value.slice.inj e1).2.1
    · exact ⟨g', (Value.slice.inj e').1, cur, r2⟩
  subst hgc
  have m0 : w9.cell? ⟨gc, 0, none⟩ = some (.int .u32 1) := own_cells' OC9.out (j := 0) rfl
  have m3 : w9.cell? ⟨gc, 3, none⟩ = some (.int .u64 (hiW (-1000))) := own_cells' OC9.out (j := 3) rfl
  have m4 : w9.cell? ⟨gc, 4, none⟩ = some (.int .u64 (loW (-1000))) := own_cells' OC9.out (j := 4) rfl
  have CT := hid (text10 w9)
  unfold mv at CT
  obtain ⟨hh, ehh⟩ : ∃ x, hiW (-1000) = x := ⟨_, rfl⟩
  obtain ⟨ll, ell⟩ : ∃ x, loW (-1000) = x := ⟨_, rfl⟩
  rw [ehh, ell] at CT
  rw [ehh] at m3
  rw [ell] at m4
  clear ehh ell
  have CB' := hid (fun (U : World) (hU : Below w9.heap.size w9 U) => closeB U (HO9.out.on hU) R (row_on RR9.out hU))
  go_upto_region 11 with (go_at_call 18; with_reducible refine CT.out.mono ?_; rintro e wa ⟨rfl, h1⟩; have Ba := hid h1; clear h1)
  clear m0 m3 m4
  have CBa := hid (CB'.out wa Ba.out)
  go_upto_region 12 with (go_at_call 17; with_reducible refine CBa.out.mono ?_; rintro e wb ⟨qd, dd, gf, cf, q9, rfl, ⟨base, h1⟩, h2, h3⟩; have OFb := hid h1; have HOb := hid h2; have Kb := hid h3; clear h1 h2 h3)
  have n2 : wb.cell? ⟨gf, 2, none⟩ = some (.int .u64 500) := own_cells' OFb.out (j := 2) rfl
  have CO := hid (own_ask wb HOb.out)
  have CP := hid (pos_ask wb HOb.out 0 7 (u32l (by decide) (by decide)) (u32l (by decide) (by decide)) pA1 rfl)
  go_wp2_with (first
    | (go_at_call 19; with_reducible refine CO.out.mono ?_; rintro e wc ⟨rfl, hc⟩; subst hc)
    | (go_at_call 20; with_reducible refine CP.out.mono ?_; rintro e wc ⟨rfl, hc⟩; subst hc))
  go_ret
  refine ⟨rfl, ?_⟩
  have D3 : Below w.heap.size w W3 := btr (btr B1.out B2.out) B3.out
  have D4 := btr D3 B4.out
  have s3 := D3.size
  have s34 := B4.out.size
  have s45 := K5.out.size
  have s56 := K6.out.size
  have l5 := L5.out
  have m5 := M5.out
  have l6 := L6.out
  have m6 := M6.out
  have l7 := L7.out
  have D5 := D4.trans (K5.out.below D4.size (fun g hg e => by omega))
  have D6 := D5.trans (K6.out.below D5.size (fun g hg e => by omega))
  have D7 := D6.trans (K7.out.below D6.size (fun g hg e => by omega))
  have D8 := btr D7 B8.out
  have hob : ∀ j, Ob W3.heap.size (some ⟨gB, 0, none⟩) [b1, b2] (some b) j → w.heap.size ≤ j := fun j hj => by
    rcases hj with rfl | ⟨a, e, rfl⟩ | hj | hj
    · exact s3
    · cases e; show w.heap.size ≤ gB; omega
    · simp at hj; omega
    · cases hj; omega
  have D9 := D8.trans (K9.out.below D8.size (fun g hg e => by have := hob g e; omega))
  have Da := btr D9 Ba.out
  exact Da.trans (Kb.out.below Da.size (fun g hg e => by have := hob g e; omega))
end Go.Proofs.YtlhbgaiiehljpaaGreat.Ac
