/-
  LvU
-/
import Derived.Test.YtlhbgaiiehljpaaGreatGAa
import Derived.Test.YtlhbgaiiehljpaaGreatLvT
namespace Go.Proofs.YtlhbgaiiehljpaaGreat.Ac
open List renaming getElem?_toArray → lqA, getElem?_cons_succ → lqB, getElem?_cons_zero → lqC
open List renaming getElem_toArray → lgA, getElem_cons_succ → lgB, getElem_cons_zero → lgC, setIfInBounds_toArray → lsA, set_cons_zero → lsB, set_cons_succ → lsC
open Go.RowKit Go.Deep Go.Maps MonM Go.Proofs.YtlhbgaiiehljpaaGreat
set_option linter.unusedVariables false
set_option linter.unusedSimpArgs false
set_option maxHeartbeats 8000000
set_option maxRecDepth 100000
attribute [local go_sem ↓] Go.wp_at_zero Go.wp_at_succ
theorem Ho.ownc {w w' : World} {H : Nat} {o o' : Int} {p : Option Addr} {c : Nat} {l : List (Nat × Sv)} {M : Option Nat} {n : Nat} {f : HoP} (h : Ho w H o p c l M n f) (hk : Kp (fun j => j = H) w w') (hr : w'.heap[H]? = some (.cells #[.int .u64 o', .slice p l.length c, .map M] 100 (0, 0))) : Ho w' H o' p c l M n f where
 row := hr
 me := ⟨own_same h.me.own (fun g hg => by
  obtain ⟨cur, e⟩ := own_ty h.me.own hg
  exact hk.obj g (row_lt e) (row_ne e h.row (by decide))), fun x hx => hk.row (h.me.st x hx) (row_ne (h.me.st x hx) h.row (by decide))⟩
 nd := h.nd
 up := h.up
 sz := h.sz
 mp := h.mp.kept hk (fun b e e2 => by
  have h1 := h.mp
  rw [e] at h1
  obtain ⟨es, cl, e3⟩ := Mp.obj h1
  rw [e2, h.row] at e3
  cases e3)
theorem own_cells' {base : Nat} {w : World} {e : TypeId} {size n c g : Nat} {xs : List Value} (h : w.ownsRow base e size (.slice (some ⟨g, 0, none⟩) n c) n xs) {j : Nat} {u : Value} (hj : xs[j]? = some u) : w.cell? ⟨g, j, none⟩ = some u := by
 obtain ⟨h1, ⟨e1, e2⟩ | ⟨g', c', cur, e', r1, r2, r3, r4, r5, r6⟩⟩ := h
 ·cases (Value.slice.inj e1).1
 ·have e3 := (Value.slice.inj e').1
  injection e3 with e3
  injection e3 with e3
  subst e3
  rw [row_cell r2]
  have hl := (List.getElem?_eq_some_iff.1 hj).1
  have := congrArg (fun z => z[j]?) r6
  simp only [List.getElem?_take, show j < n * size by omega, if_true, Array.getElem?_toList] at this
  rw [this, hj]
theorem infoF2 : (Tryz.prog.info? 52).map (fun i => (i.zero, i.size, i.bytes)) = some (some (.agg #[.int .u32 0, .int .u64 0]), 2, 16) := by kernel_rfl
theorem infoCv : (Tryz.prog.info? 48).map (·.size) = some 4 := by kernel_rfl
theorem fz_one {base : Nat} {w : World} {g c : Nat} {m f : Int} (h : w.ownsRow base 52 2 (.slice (some ⟨g, 0, none⟩) 1 c) 1 [.int .u32 m, .int .u64 f]) : Ss.Fz w (some ⟨g, 0, none⟩) [⟨m, f⟩] := fun i hi => by
 have e : i = 0 := by simpa using hi
 subst e
 obtain ⟨cur, hc⟩ := own_ty h (g := g) rfl
 exact ⟨g, 0, rfl, row_lt hc, own_cells' h (j := 0) rfl, own_cells' h (j := 1) rfl⟩
theorem full_one {w : World} {H : Nat} {q : Option Addr} {x : Int} (h : Ss.Full w H q [x]) : ∃ g, q = some ⟨g, 0, none⟩ ∧ H ≤ g ∧ Ss.Uw w g 1 [x] := by
 rcases h with ⟨_, h⟩ | ⟨g, e, hg, hu⟩
 ·cases h
 ·exact ⟨g, e, hg, hu⟩
theorem uw_row {w : World} {g : Nat} {x : Int} (h : Ss.Uw w g 1 [x]) : ∃ cur, w.heap[g]? = some (.cells cur 31 (0, 0)) := by
 obtain ⟨cur, e, _⟩ := h.row
 exact ⟨cur, e⟩
theorem cover_two (b1 b2 : Nat) (m1 f1 g1 m2 f2 g2 : Int) (c1 c2 : Bool) {H : Nat} {o : Int} {p : Option Addr} {c : Nat} {M : Option Nat} {n : Nat} {f : HoP} (w : World) (h : Ho w H o p c [(b1, ⟨m1, f1, g1, c1, true⟩), (b2, ⟨m2, f2, g2, c2, false⟩)] M n f)
  (ha : Amt g1) (h0 : g1 < 0) (h1 : -18446744073709551616 < g1) (hf1 : 0 ≤ f1 ∧ f1 < 18446744073709551616) (hf2 : 0 ≤ f2 ∧ f2 < 18446744073709551616) (ho : 0 ≤ o ∧ o < 18446744073709551616) (co ch cl cf : Int)
  (hb : ∀ er o' h' l lf, Ss.CvR (-g1) f1 o [f2] er o' h' l lf → 0 = er ∧ co = o' ∧ ch = h' ∧ [cl] = l ∧ cf = lf) (d1 : 0 ≤ co ∧ co ≤ f1) (d2 : 0 ≤ ch ∧ ch ≤ o) (d3 : 0 ≤ cl ∧ cl ≤ f2) :
  Calls Tryz.prog 73 #[pb H, pb b1] w fun e w' => (∃ q, e = .returned (.agg #[.int .u64 co, .int .u64 ch, .slice q 1 1, .int .u64 cf])) ∧ Ho w' H (o - ch) p c [(b1, ⟨m1, f1 - co, 0, c1, true⟩), (b2, ⟨m2, f2 - cl, g2, c2, false⟩)] M n f ∧ Kp (fun j => j = H ∨ j = b1 ∨ j = b2) w w' := by
 have CS := hid (fun U => sign_any g1 U ha)
 rw [show sgn g1 = -1 from by unfold sgn; rw [if_pos h0]] at CS
 have CO := hid (fun U => owed_any g1 U ha h0 h1)
 have CB := hid (fun (U : World) (q : Nat) (cq : Nat) (hz : Ss.Fz U (some ⟨q, 0, none⟩) [⟨m2, f2⟩]) => Ss.bear_any (-g1) f1 o [⟨m2, f2⟩] 1 (some ⟨q, 0, none⟩) cq U ⟨by omega, by omega⟩ hf1 ho (fun x hx => by simp at hx; subst hx; exact hf2) rfl (by decide) hz)
 have HB := hid hb
 have w1 : IntKind.u64.wrap (f1 - co) = f1 - co := by rw [IntKind.wrap_u64]; omega
 have w2 : IntKind.u64.wrap (o - ch) = o - ch := by rw [IntKind.wrap_u64]; omega
 have w3 : IntKind.u64.wrap (f2 - cl) = f2 - cl := by rw [IntKind.wrap_u64]; omega
 obtain ⟨x0, hx⟩ : ∃ x0, -g1 = x0 := ⟨_, rfl⟩
 rw [hx] at CO CB HB
 unfold mv at CS CO
 have m12 : m1 < m2 := by have := h.up; unfold Up at this; simp at this; exact this
 have b12 : b1 ≠ b2 := by have := h.nd; simp at this; exact this
 have HM12 := hid m12
 have HB12 := hid b12
 have HH := hid h
 obtain ⟨gp, ep, pa0, -⟩ := h.me.at (i := 0) (by simp)
 obtain ⟨gp', ep', pa1, -⟩ := h.me.at (i := 1) (by simp)
 have ee : gp = gp' := by rw [ep] at ep'; injection ep' with e; injection e
 subst ee ep
 have HP0 := hid (show ∀ U, Below w.heap.size w U → U.cell? ⟨gp, 0, none⟩ = some (pb b1) from fun U hU => by
  obtain ⟨g', e', h', -⟩ := (HH.out.on hU).me.at (i := 0) (by simp)
  injection e' with e'
  injection e' with e'
  subst e'
  exact h')
 have HP1 := hid (show ∀ U, Below w.heap.size w U → U.cell? ⟨gp, 1, none⟩ = some (pb b2) from fun U hU => by
  obtain ⟨g', e', h', -⟩ := (HH.out.on hU).me.at (i := 1) (by simp)
  injection e' with e'
  injection e' with e'
  subst e'
  exact h')
 obtain ⟨W1, hW1⟩ : ∃ W, w.alloc (.cells #[.int .u64 0, .int .u64 0, .slice none 0 0, .int .u64 0] 48) = W := ⟨_, rfl⟩
 obtain ⟨g4, hg4⟩ : ∃ g, w.heap.size = g := ⟨_, rfl⟩
 have B1 := hid (show Below w.heap.size w W1 from by rw [← hW1]; exact ball _ _)
 have R4 := hid (show W1.heap[g4]? = some (.cells #[.int .u64 0, .int .u64 0, .slice none 0 0, .int .u64 0] 48 (0, 0)) from by rw [← hW1, ← hg4]; exact World.alloc_heap_new _ _)
 have HG4 := hid (Nat.le_of_eq hg4)
 have HR1 := hid (fun (U : World) (hU : Below W1.heap.size W1 U) => (show U.heap[b1]? = some (.cells #[.int .u32 m1, .int .u64 f1, .int .u64 (hiW g1), .int .u64 (loW g1), .bool c1, .bool true] 106 (0, 0)) from row_on (row_on (h.me.st _ (List.mem_cons_self ..)) B1.out) hU))
 have HR2 := hid (fun (U : World) (hU : Below W1.heap.size W1 U) => (show U.heap[b2]? = some (.cells #[.int .u32 m2, .int .u64 f2, .int .u64 (hiW g2), .int .u64 (loW g2), .bool c2, .bool false] 106 (0, 0)) from row_on (row_on (h.me.st _ (List.mem_cons_of_mem _ (List.mem_cons_self ..))) B1.out) hU))
 have HRH := hid (fun (U : World) (hU : Below W1.heap.size W1 U) => (show U.heap[H]? = some (.cells #[.int .u64 o, .slice (some ⟨gp, 0, none⟩) 2 c, .map M] 100 (0, 0)) from row_on (row_on h.row B1.out) hU))
 have hkc : 2 ≤ c := (own_capc h.me.own).1
 obtain ⟨iF, hiF, hzF, hsF, hyF⟩ := info_parts infoF2
 have IF := hid (And.intro hiF (And.intro hzF (And.intro hsF hyF)))
 obtain ⟨iS, hiS, hzS, hsS, hyS⟩ := info_parts infoS
 have IS := hid (And.intro hiS (And.intro hzS (And.intro hsS hyS)))
 obtain ⟨b0, hb0⟩ : ∃ b, W1.heap.size = b := ⟨_, rfl⟩
 have HB0 := hid hb0
 have RY1 := hid (HR1.out W1 (Below.refl _ _))
 have RHH := hid (HRH.out W1 (Below.refl _ _))
 clear h ha h0 h1 hf1 hf2 ho hb d1 d2 d3 hx m12 b12 ep' pa0 pa1 hiF hzF hsF hyF hiS hzS hsS hyS hb0
 have y2 := row_cell RY1.out 2
 have y3 := row_cell RY1.out 3
 simp only [lqA, lqB, lqC] at y2 y3
 have k1 := row_cell RHH.out 1
 simp only [lqA, lqB, lqC] at k1
 go_enter Tryz.func73, Tryz.ntmps73
 go_upto_region 1 with fail
 clear hW1 hg4
 go_upto_region 5 with (go_at_call 11; with_reducible refine (CS.out _).mono ?_; rintro e w2' ⟨rfl, h2⟩; have B2 := hid h2; clear h2)
 clear y2 y3 k1
 have RHH := hid (HRH.out _ B2.out)
 have k1 := row_cell RHH.out 1
 simp only [lqA, lqB, lqC] at k1
 go_upto_region 6 with fail
 clear k1
 go_loopw [5, 6, 25] (fun av fv iv wr => Hid (Below W1.heap.size W1 wr) ∧ ((iv = .int .i64 0 ∧ av = .slice none 0 0 ∧ fv = .slice none 0 0) ∨ (iv = .int .i64 1 ∧ av = .slice none 0 0 ∧ fv = .slice none 0 0) ∨ (iv = .int .i64 2 ∧ ∃ ga ca gf cf', av = .slice (some ⟨ga, 0, none⟩) 1 ca ∧ fv = .slice (some ⟨gf, 0, none⟩) 1 cf' ∧ Hid (wr.ownsRow b0 104 1 (.slice (some ⟨ga, 0, none⟩) 1 ca) 1 [pb b2]) ∧ Hid (wr.ownsRow b0 52 2 (.slice (some ⟨gf, 0, none⟩) 1 cf') 1 [.int .u32 m2, .int .u64 f2])))) (fun _ _ iv _ => 2 - (intOf iv).toNat)
 case atStart => exact ⟨B2, .inl ⟨rfl, rfl, rfl⟩⟩
 case round =>
  obtain ⟨HW, hrel⟩ := hrel
  rcases hrel with ⟨rfl, rfl, rfl⟩ | ⟨rfl, rfl, rfl⟩ | ⟨rfl, ga, ca, gf, cf', rfl, rfl, OA, OF⟩
  ·have p0 := HP0.out wr (btr B1.out HW.out)
   have r1 := hid (HR1.out wr HW.out)
   have y5 := row_cell r1.out 5
   simp only [lqA, lqB, lqC] at y5
   go_wp2
   go_roundw
   case rel => exact ⟨HW, .inr (.inl ⟨rfl, rfl, rfl⟩)⟩
   case measure => simp [intOf]
  ·have p1 := HP1.out wr (btr B1.out HW.out)
   have r2 := hid (HR2.out wr HW.out)
   have y5 := row_cell r2.out 5
   simp only [lqA, lqB, lqC] at y5
   obtain ⟨X, hX⟩ : ∃ X, wr.alloc (.cells #[pb b2] 104) = X := ⟨_, rfl⟩
   have BX := hid (show Below wr.heap.size wr X from by rw [← hX]; exact ball _ _)
   have RN := hid (show ∀ j u, ([pb b2] : List Value)[j]? = some u → X.cell? ((⟨wr.heap.size, 0, none⟩ : Addr).add j) = some u from fun j u hj => by
    rw [Addr.add_lit, Nat.zero_add, row_cell (show X.heap[wr.heap.size]? = some (.cells #[pb b2] 104 (0, 0)) from by rw [← hX]; exact World.alloc_heap_new _ _)]
    simpa using hj)
   have H1 := hid (show ∀ u ∈ ([pb b2] : List Value), u.oneCell' = true from fun u hu => by simp at hu; subst hu; rfl)
   have HXX := hid hX
   have HBX := hid (show b0 ≤ X.heap.size from by have h1 := BX.out.size; have h2 := HW.out.size; rw [HB0.out] at h2; omega)
   clear hX
   go_upto_region 10 with (rw [HXX.out]; at_builtin; refine wpList_append_lies X (by rfl) (.tmp 34) (.tmp 36) 97 (by rfl) b0 104 iS _ 1 8 Tryz.underlying97 IS.out.1 IS.out.2.1 IS.out.2.2.1 IS.out.2.2.2 rfl (by decide) _ 0 [] (by rfl) (own_nil _ _ _ _) ⟨wr.heap.size, 0, none⟩ 1 1 [pb b2] (by rfl) (by rfl) RN.out H1.out (by decide) (by decide) (by decide) HBX.out _ rfl ?_; intro ga ca w9 h1 h2 h3 h4; have O9 := hid h1; have G9 := hid h2; clear h1 h2 h3 h4)
   have B9 := hid (show Below wr.heap.size wr w9 from btr BX.out ⟨G9.out.os, G9.out.tape, G9.out.output, G9.out.size, fun j hj => G9.out.block j hj (fun e => by cases e)⟩)
   have BW9 := hid (btr HW.out B9.out)
   have R29 := hid (HR2.out w9 BW9.out)
   have OA9 := hid (show w9.ownsRow b0 104 1 (.slice (some ⟨ga, 0, none⟩) 1 ca) 1 [pb b2] from O9.out)
   clear p1 y5
   have BRF := hid (Below.refl w9.heap.size w9)
   obtain ⟨V1, hV1⟩ : ∃ U, w9.drew = U := ⟨_, rfl⟩
   have bV1 := hid (show Below w9.heap.size w9 V1 from by rw [← hV1]; exact bdrew1 _)
   have DV1 := hid (btr BRF.out bV1.out)
   have r2 := hid (row_on R29.out bV1.out)
   refine wp_region_held_drew (S := (fun U => U.cell? ⟨b2, 0, none⟩ = some (.int .u32 m2) ∧ U.cell? ⟨b2, 1, none⟩ = some (.int .u64 f2))) (by kernel_rfl) ?_ (fun hHeld => ?_)
   ·(try dsimp only); rw [hV1]; exact ⟨row_cell r2.out 0, row_cell r2.out 1⟩
   rw [hV1] at hHeld ⊢
   clear hV1
   refine' tkz 0 rfl ?_ ?_
   rotate_left
   ·(intro w hSw; (try dsimp only at hSw); go_simp; try (with_reducible rfl))
   try simp only [lgA, lgB, lgC, Act.put, lsA, lsB, lsC]
   refine' tkz 1 rfl ?_ ?_
   rotate_left
   ·(intro w hSw; (try dsimp only at hSw); go_simp; try (with_reducible rfl))
   try simp only [lgA, lgB, lgC, Act.put, lsA, lsB, lsC]
   refine' tkz 2 rfl ?_ ?_
   rotate_left
   ·(intro w hSw; (try dsimp only at hSw); go_simp; try (with_reducible rfl))
   try simp only [lgA, lgB, lgC, Act.put, lsA, lsB, lsC]
   refine' tkz 3 rfl ?_ ?_
   rotate_left
   ·(intro w hSw; (try dsimp only at hSw); go_simp; try (with_reducible rfl))
   try simp only [lgA, lgB, lgC, Act.put, lsA, lsB, lsC]
   refine' tkz 4 rfl ?_ ?_
   rotate_left
   ·(intro w hSw; (try dsimp only at hSw); go_simp; try (with_reducible rfl))
   try simp only [lgA, lgB, lgC, Act.put, lsA, lsB, lsC]
   refine' tkz 5 rfl ?_ ?_
   rotate_left
   ·(intro w hSw; (try dsimp only at hSw); go_simp; try (with_reducible rfl))
   try simp only [lgA, lgB, lgC, Act.put, lsA, lsB, lsC]
   refine' tkz 6 rfl ?_ ?_
   rotate_left
   ·(intro w hSw; (try dsimp only at hSw); go_simp; try (with_reducible rfl))
   try simp only [lgA, lgB, lgC, Act.put, lsA, lsB, lsC]
   refine' tkz 7 rfl ?_ ?_
   rotate_left
   ·(intro w hSw; (try dsimp only at hSw); go_simp; try (with_reducible rfl))
   try simp only [lgA, lgB, lgC, Act.put, lsA, lsB, lsC]
   refine' tkz 8 rfl ?_ ?_
   rotate_left
   ·(intro w hSw; (try dsimp only at hSw); go_simp; try (with_reducible rfl))
   try simp only [lgA, lgB, lgC, Act.put, lsA, lsB, lsC]
   refine' tkz 9 rfl ?_ ?_
   rotate_left
   ·(intro w hSw; (try dsimp only at hSw); go_simp; try (with_reducible rfl))
   try simp only [lgA, lgB, lgC, Act.put, lsA, lsB, lsC]
   refine wpAnyH_ready (rs := [10]) (by kernel_rfl) (by simp) ?_
   refine (AllReadyH.cons rfl (fun K hK => ?_) AllReadyH.nil)
   go_simp
   obtain ⟨X3, hX3⟩ : ∃ X, V1.alloc (.cells #[.int .u32 m2, .int .u64 f2] 52) = X := ⟨_, rfl⟩
   have bX3 := hid (show Below V1.heap.size V1 X3 from by rw [← hX3]; exact ball _ _)
   have zX3 : X3.heap[V1.heap.size]? = some (.cells #[.int .u32 m2, .int .u64 f2] 52 (0, 0)) := by rw [← hX3]; exact World.alloc_heap_new _ _
   have DX3 := hid (btr DV1.out bX3.out)
   have r5 := hid (row_on r2.out bX3.out)
   obtain ⟨g4, hg4⟩ : ∃ g, V1.heap.size = g := ⟨_, rfl⟩
   have ne6 := hid (show b2 ≠ g4 from by have := row_lt r2.out; omega)
   have yg4 := hid (Nat.le_trans DV1.out.size (Nat.le_refl _))
   rw [hg4] at zX3 yg4
   have ZX3 := hid zX3
   rw [hX3, hg4]
   clear hX3 hg4 zX3
   refine hK.out _ _ ?_ (fun hHeld => ?_)
   ·(try dsimp only); exact ⟨row_cell r5.out 0, row_cell r5.out 1⟩
   clear hK K
   try simp only [lgA, lgB, lgC, Act.put, lsA, lsB, lsC]
   refine wpAnyH_ready (rs := [11]) (by kernel_rfl) (by simp) ?_
   refine (AllReadyH.cons rfl (fun K hK => ?_) AllReadyH.nil)
   refine step_append_lies X3 (by rfl) (.tmp 38) (.tmp 48) 53 (by rfl) b0 52 iF _ 2 16 Tryz.underlying53 IF.out.1 IF.out.2.1 IF.out.2.2.1 IF.out.2.2.2 rfl (by decide) _ 0 [] (by rfl) (own_nil _ _ _ _) ⟨g4, 0, none⟩ 1 1 [.int .u32 m2, .int .u64 f2] (by rfl) (by rfl) (fun j u hj => by rw [Addr.add_lit, Nat.zero_add, row_cell ZX3.out]; simpa using hj) (by simp [Value.oneCell']) (by decide) (by decide) (by decide) (by have h1 := DX3.out.size; have h2 := BW9.out.size; rw [HB0.out] at h2; omega) _ rfl (fun gf cf' wf h1 h2 h3 h4 => ?_)
   have Of := hid h1
   have Gf := hid h2
   clear h1 h2 h3 h4
   have Bf := hid (show Below w9.heap.size w9 wf from btr DX3.out ⟨Gf.out.os, Gf.out.tape, Gf.out.output, Gf.out.size, fun j hj => Gf.out.block j hj (fun e => by cases e)⟩)
   have R2f := hid (row_on R29.out Bf.out)
   refine hK.out _ _ ?_ (fun hHeld => ?_)
   ·(try dsimp only); exact ⟨row_cell R2f.out 0, row_cell R2f.out 1⟩
   clear hK K
   try simp only [lgA, lgB, lgC, Act.put, lsA, lsB, lsC]
   refine' tkz 12 rfl ?_ ?_
   rotate_left
   ·(intro w hSw; (try dsimp only at hSw); go_simp; try (with_reducible rfl))
   try simp only [lgA, lgB, lgC, Act.put, lsA, lsB, lsC]
   refine wpAnyH_done (by kernel_rfl) ?_ _
   (try go_wp2)
   go_roundw
   case rel => exact ⟨hid (btr BW9.out Bf.out), .inr (.inr ⟨rfl, ga, ca, gf, cf', rfl, rfl, hid (own_on OA9.out Bf.out), Of⟩)⟩
   case measure => simp [intOf]
  ·have RW1 := hid (HR1.out wr HW.out)
   have RWH := hid (HRH.out wr HW.out)
   have BRF := hid (Below.refl wr.heap.size wr)
   go_upto_region 12 with fail
   refine reg_cut (X := Nat × Nat) (fun a x => ((((((((((((((((((((a.put (some 52) (pb b1)).put (some 53) (.pointer (some ⟨b1, 0, none⟩))).put (some 54) (.pointer (some ⟨b1, 2, none⟩))).put (some 55) (.agg #[.int .u64 (hiW g1), .int .u64 (loW g1)])).put (some 56) (.int .u64 x0)).put (some 57) (pb b1)).put (some 58) (.pointer (some ⟨b1, 0, none⟩))).put (some 59) (.pointer (some ⟨b1, 1, none⟩))).put (some 60) (.int .u64 f1)).put (some 61) (pb H)).put (some 62) (.pointer (some ⟨H, 0, none⟩))).put (some 63) (.pointer (some ⟨H, 0, none⟩))).put (some 64) (.int .u64 o)).put (some 65) (.slice (some ⟨gf, 0, none⟩) 1 cf')).put (some 66) (.tuple #[.agg #[.int .u64 co, .int .u64 ch, .slice (some ⟨x.2, 0, none⟩) 1 1, .int .u64 cf], .int .i64 0])).put (some 51) (.tuple #[.agg #[.int .u64 co, .int .u64 ch, .slice (some ⟨x.2, 0, none⟩) 1 1, .int .u64 cf], .int .i64 0])).put (some 67) (.agg #[.int .u64 co, .int .u64 ch, .slice (some ⟨x.2, 0, none⟩) 1 1, .int .u64 cf])).put (some 68) (.int .i64 0)).put (some 9) (.pointer (some ⟨x.1, 0, none⟩))).put (some 10) (.int .i64 0))) (fun x V => Hid (Below wr.heap.size wr V) ∧ Hid (V.heap[x.1]? = some (.cells #[.int .u64 co, .int .u64 ch, .slice (some ⟨x.2, 0, none⟩) 1 1, .int .u64 cf] 48 (0, 0))) ∧ Hid (Ss.Uw V x.2 1 [cl]) ∧ Hid (wr.heap.size ≤ x.1)) ?_ ?_
   ·obtain ⟨V7, hV7⟩ : ∃ U, wr.drew = U := ⟨_, rfl⟩
    have bV7 := hid (show Below wr.heap.size wr V7 from by rw [← hV7]; exact bdrew1 _)
    have DV7 := hid (btr BRF.out bV7.out)
    have r8 := hid (row_on RW1.out bV7.out)
    have r9 := hid (row_on RWH.out bV7.out)
    have x10 := hid (own_on OF.out bV7.out)
    refine wp_region_held_drew (S := (fun U => U.cell? ⟨b1, 1, none⟩ = some (.int .u64 f1) ∧ U.cell? ⟨b1, 2, none⟩ = some (.int .u64 (hiW g1)) ∧ U.cell? ⟨b1, 3, none⟩ = some (.int .u64 (loW g1)) ∧ U.cell? ⟨H, 0, none⟩ = some (.int .u64 o))) (by kernel_rfl) ?_ (fun hHeld => ?_)
    ·(try dsimp only); rw [hV7]; exact ⟨row_cell r8.out 1, row_cell r8.out 2, row_cell r8.out 3, row_cell r9.out 0⟩
    rw [hV7] at hHeld ⊢
    clear hV7
    refine' tkz 0 rfl ?_ ?_
    rotate_left
    ·(intro w hSw; (try dsimp only at hSw); go_simp; try (with_reducible rfl))
    try simp only [lgA, lgB, lgC, Act.put, lsA, lsB, lsC]
    refine' tkz 1 rfl ?_ ?_
    rotate_left
    ·(intro w hSw; (try dsimp only at hSw); go_simp; try (with_reducible rfl))
    try simp only [lgA, lgB, lgC, Act.put, lsA, lsB, lsC]
    refine' tkz 2 rfl ?_ ?_
    rotate_left
    ·(intro w hSw; (try dsimp only at hSw); go_simp; try (with_reducible rfl))
    try simp only [lgA, lgB, lgC, Act.put, lsA, lsB, lsC]
    refine' tkz 3 rfl ?_ ?_
    rotate_left
    ·(intro w hSw; (try dsimp only at hSw); go_simp; try (with_reducible rfl))
    try simp only [lgA, lgB, lgC, Act.put, lsA, lsB, lsC]
    refine' tkz 5 rfl ?_ ?_
    rotate_left
    ·(intro w hSw; (try dsimp only at hSw); go_simp; try (with_reducible rfl))
    try simp only [lgA, lgB, lgC, Act.put, lsA, lsB, lsC]
    refine' tkz 6 rfl ?_ ?_
    rotate_left
    ·(intro w hSw; (try dsimp only at hSw); go_simp; try (with_reducible rfl))
    try simp only [lgA, lgB, lgC, Act.put, lsA, lsB, lsC]
    refine' tkz 7 rfl ?_ ?_
    rotate_left
    ·(intro w hSw; (try dsimp only at hSw); go_simp; try (with_reducible rfl))
    try simp only [lgA, lgB, lgC, Act.put, lsA, lsB, lsC]
    refine' tkz 8 rfl ?_ ?_
    rotate_left
    ·(intro w hSw; (try dsimp only at hSw); go_simp; try (with_reducible rfl))
    try simp only [lgA, lgB, lgC, Act.put, lsA, lsB, lsC]
    refine' tkz 9 rfl ?_ ?_
    rotate_left
    ·(intro w hSw; (try dsimp only at hSw); go_simp; try (with_reducible rfl))
    try simp only [lgA, lgB, lgC, Act.put, lsA, lsB, lsC]
    refine' tkz 10 rfl ?_ ?_
    rotate_left
    ·(intro w hSw; (try dsimp only at hSw); go_simp; try (with_reducible rfl))
    try simp only [lgA, lgB, lgC, Act.put, lsA, lsB, lsC]
    refine' tkz 11 rfl ?_ ?_
    rotate_left
    ·(intro w hSw; (try dsimp only at hSw); go_simp; try (with_reducible rfl))
    try simp only [lgA, lgB, lgC, Act.put, lsA, lsB, lsC]
    refine' tkz 12 rfl ?_ ?_
    rotate_left
    ·(intro w hSw; (try dsimp only at hSw); go_simp; try (with_reducible rfl))
    try simp only [lgA, lgB, lgC, Act.put, lsA, lsB, lsC]
    refine' tkz 13 rfl ?_ ?_
    rotate_left
    ·(intro w hSw; (try dsimp only at hSw); go_simp; try (with_reducible rfl))
    try simp only [lgA, lgB, lgC, Act.put, lsA, lsB, lsC]
    refine wpAnyH_ready (rs := [4, 18]) (by kernel_rfl) (by simp) ?_
    refine (AllReadyH.cons rfl (fun K hK => ?_) (AllReadyH.cons rfl (fun K hK => ?_) AllReadyH.nil))
    ·go_simp
     go_at_call 88
     with_reducible refine (CO.out V7).mono ?_
     rintro e X11 ⟨rfl, cX11⟩
     have bX11 := hid cX11
     clear cX11
     have DX11 := hid (btr DV7.out bX11.out)
     have r12 := hid (row_on r8.out bX11.out)
     have r13 := hid (row_on r9.out bX11.out)
     have x14 := hid (own_on x10.out bX11.out)
     (try go_wp2_with fail)
     refine hK.out _ _ ?_ (fun hHeld => ?_)
     ·(try dsimp only); exact ⟨row_cell r12.out 1, row_cell r12.out 2, row_cell r12.out 3, row_cell r13.out 0⟩
     clear hK K
     try simp only [lgA, lgB, lgC, Act.put, lsA, lsB, lsC]
     refine wpAnyH_ready (rs := [14, 18]) (by kernel_rfl) (by simp) ?_
     refine (AllReadyH.cons rfl (fun K hK => ?_) (AllReadyH.cons rfl (fun K hK => ?_) AllReadyH.nil))
     ·go_simp
      go_at_call 13
      with_reducible refine (CB.out X11 gf cf' (fz_one x14.out)).mono ?_
      rintro e X15 ⟨er1, o1, h1, lf1, p1, l1, rfl, hcv, hfu, cX15⟩
      obtain ⟨rfl, rfl, rfl, rfl, rfl⟩ := HB.out _ _ _ _ _ hcv
      obtain ⟨gl, rfl, hgl, ug⟩ := full_one hfu
      have UG := hid ug
      clear hcv hfu hgl ug
      have bX15 := hid cX15
      clear cX15
      have DX15 := hid (btr DX11.out bX15.out)
      have r16 := hid (row_on r12.out bX15.out)
      have r17 := hid (row_on r13.out bX15.out)
      have x18 := hid (own_on x14.out bX15.out)
      (try go_wp2_with fail)
      refine hK.out _ _ ?_ (fun hHeld => ?_)
      ·(try dsimp only); exact ⟨row_cell r16.out 1, row_cell r16.out 2, row_cell r16.out 3, row_cell r17.out 0⟩
      clear hK K
      try simp only [lgA, lgB, lgC, Act.put, lsA, lsB, lsC]
      refine' tkz 15 rfl ?_ ?_
      rotate_left
      ·(intro w hSw; (try dsimp only at hSw); go_simp; try (with_reducible rfl))
      try simp only [lgA, lgB, lgC, Act.put, lsA, lsB, lsC]
      refine' tkz 16 rfl ?_ ?_
      rotate_left
      ·(intro w hSw; (try dsimp only at hSw); go_simp; try (with_reducible rfl))
      try simp only [lgA, lgB, lgC, Act.put, lsA, lsB, lsC]
      refine' tkz 17 rfl ?_ ?_
      rotate_left
      ·(intro w hSw; (try dsimp only at hSw); go_simp; try (with_reducible rfl))
      try simp only [lgA, lgB, lgC, Act.put, lsA, lsB, lsC]
      refine wpAnyH_ready (rs := [18]) (by kernel_rfl) (by simp) ?_
      refine (AllReadyH.cons rfl (fun K hK => ?_) AllReadyH.nil)
      go_simp
      obtain ⟨X19, hX19⟩ : ∃ X, X15.alloc (.cells #[.int .u64 0, .int .u64 0, .slice none 0 0, .int .u64 0] 48) = X := ⟨_, rfl⟩
      have bX19 := hid (show Below X15.heap.size X15 X19 from by rw [← hX19]; exact ball _ _)
      have zX19 : X19.heap[X15.heap.size]? = some (.cells #[.int .u64 0, .int .u64 0, .slice none 0 0, .int .u64 0] 48 (0, 0)) := by rw [← hX19]; exact World.alloc_heap_new _ _
      have DX19 := hid (btr DX15.out bX19.out)
      have r21 := hid (row_on r16.out bX19.out)
      have r22 := hid (row_on r17.out bX19.out)
      have x23 := hid (own_on x18.out bX19.out)
      have x24 := hid (Ss.Uw.on UG.out bX19.out)
      obtain ⟨g20, hg20⟩ : ∃ g, X15.heap.size = g := ⟨_, rfl⟩
      have ne25 := hid (show b1 ≠ g20 from by have := row_lt r16.out; omega)
      have ne26 := hid (show H ≠ g20 from by have := row_lt r17.out; omega)
      have yg20 := hid (Nat.le_trans DX15.out.size (Nat.le_refl _))
      rw [hg20] at zX19 yg20
      have ZX19 := hid zX19
      rw [hX19, hg20]
      clear hX19 hg20 zX19
      refine hK.out _ _ ?_ (fun hHeld => ?_)
      ·(try dsimp only); exact ⟨row_cell r21.out 1, row_cell r21.out 2, row_cell r21.out 3, row_cell r22.out 0⟩
      clear hK K
      try simp only [lgA, lgB, lgC, Act.put, lsA, lsB, lsC]
      refine wpAnyH_ready (rs := [19]) (by kernel_rfl) (by simp) ?_
      refine (AllReadyH.cons rfl (fun K hK => ?_) AllReadyH.nil)
      refine step_store_row (by rfl) 48 (.tmp 9) (.tmp 67) (by rfl) g20 #[.int .u64 co, .int .u64 ch, .slice (some ⟨gl, 0, none⟩) 1 1, .int .u64 cf] (by rfl) (by rfl) 48 _ ZX19.out infoCv (by rfl) (by simp [Value.oneCell']) ?_
      have AY27 := hid (setRow_heap X19 g20 _ #[.int .u64 co, .int .u64 ch, .slice (some ⟨gl, 0, none⟩) 1 1, .int .u64 cf] 48 (0, 0) ZX19.out)
      have kY27 := hid (setRow_kp X19 g20 #[.int .u64 co, .int .u64 ch, .slice (some ⟨gl, 0, none⟩) 1 1, .int .u64 cf])
      have r28 := hid (kY27.out.row r21.out (fun e => ne25.out e))
      have r29 := hid (kY27.out.row r22.out (fun e => ne26.out e))
      have DY27 := hid (show Below _ _ _ from DX19.out.trans (kY27.out.below DX19.out.size (fun g hg e => by have := yg20.out; omega)))
      have x30 := hid (own_kp x23.out kY27.out (fun r1 cs1 e1 _ => row_ne e1 ZX19.out (by decide)))
      have x31 := hid (Ss.Uw.same x24.out (kY27.out.obj _ (Ss.Uw.lt x24.out) (by obtain ⟨cu, hc⟩ := uw_row x24.out; exact row_ne hc ZX19.out (by decide))))
      obtain ⟨Y27, hY27⟩ : ∃ Y, X19.setRow g20 #[.int .u64 co, .int .u64 ch, .slice (some ⟨gl, 0, none⟩) 1 1, .int .u64 cf] = Y := ⟨_, rfl⟩
      rw [hY27] at AY27 kY27 DY27 r28 r29 x30 x31 ⊢
      clear hY27
      refine hK.out _ _ ?_ (fun hHeld => ?_)
      ·(try dsimp only); exact ⟨row_cell r28.out 1, row_cell r28.out 2, row_cell r28.out 3, row_cell r29.out 0⟩
      clear hK K
      try simp only [lgA, lgB, lgC, Act.put, lsA, lsB, lsC]
      refine' tkz 20 rfl ?_ ?_
      rotate_left
      ·(intro w hSw; (try dsimp only at hSw); go_simp; try (with_reducible rfl))
      try simp only [lgA, lgB, lgC, Act.put, lsA, lsB, lsC]
      refine wpAnyH_done (by kernel_rfl) ?_ _
      exact ⟨(g20, gl), by kernel_rfl, DY27, AY27, x31, yg20⟩
     ·go_simp
      obtain ⟨X32, hX32⟩ : ∃ X, X11.alloc (.cells #[.int .u64 0, .int .u64 0, .slice none 0 0, .int .u64 0] 48) = X := ⟨_, rfl⟩
      have bX32 := hid (show Below X11.heap.size X11 X32 from by rw [← hX32]; exact ball _ _)
      have zX32 : X32.heap[X11.heap.size]? = some (.cells #[.int .u64 0, .int .u64 0, .slice none 0 0, .int .u64 0] 48 (0, 0)) := by rw [← hX32]; exact World.alloc_heap_new _ _
      have DX32 := hid (btr DX11.out bX32.out)
      have r34 := hid (row_on r12.out bX32.out)
      have r35 := hid (row_on r13.out bX32.out)
      have x36 := hid (own_on x14.out bX32.out)
      obtain ⟨g33, hg33⟩ : ∃ g, X11.heap.size = g := ⟨_, rfl⟩
      have ne37 := hid (show b1 ≠ g33 from by have := row_lt r12.out; omega)
      have ne38 := hid (show H ≠ g33 from by have := row_lt r13.out; omega)
      have yg33 := hid (Nat.le_trans DX11.out.size (Nat.le_refl _))
      rw [hg33] at zX32 yg33
      have ZX32 := hid zX32
      rw [hX32, hg33]
      clear hX32 hg33 zX32
      refine hK.out _ _ ?_ (fun hHeld => ?_)
      ·(try dsimp only); exact ⟨row_cell r34.out 1, row_cell r34.out 2, row_cell r34.out 3, row_cell r35.out 0⟩
      clear hK K
      try simp only [lgA, lgB, lgC, Act.put, lsA, lsB, lsC]
      refine wpAnyH_ready (rs := [14]) (by kernel_rfl) (by simp) ?_
      refine (AllReadyH.cons rfl (fun K hK => ?_) AllReadyH.nil)
      go_simp
      go_at_call 13
      with_reducible refine (CB.out X32 gf cf' (fz_one x36.out)).mono ?_
      rintro e X39 ⟨er1, o1, h1, lf1, p1, l1, rfl, hcv, hfu, cX39⟩
      obtain ⟨rfl, rfl, rfl, rfl, rfl⟩ := HB.out _ _ _ _ _ hcv
      obtain ⟨gl, rfl, hgl, ug⟩ := full_one hfu
      have UG := hid ug
      clear hcv hfu hgl ug
      have bX39 := hid cX39
      clear cX39
      have DX39 := hid (btr DX32.out bX39.out)
      have r40 := hid (row_on r34.out bX39.out)
      have r41 := hid (row_on r35.out bX39.out)
      have r42 := hid (row_on ZX32.out bX39.out)
      have x43 := hid (own_on x36.out bX39.out)
      (try go_wp2_with fail)
      refine hK.out _ _ ?_ (fun hHeld => ?_)
      ·(try dsimp only); exact ⟨row_cell r40.out 1, row_cell r40.out 2, row_cell r40.out 3, row_cell r41.out 0⟩
      clear hK K
      try simp only [lgA, lgB, lgC, Act.put, lsA, lsB, lsC]
      refine' tkz 15 rfl ?_ ?_
      rotate_left
      ·(intro w hSw; (try dsimp only at hSw); go_simp; try (with_reducible rfl))
      try simp only [lgA, lgB, lgC, Act.put, lsA, lsB, lsC]
      refine' tkz 16 rfl ?_ ?_
      rotate_left
      ·(intro w hSw; (try dsimp only at hSw); go_simp; try (with_reducible rfl))
      try simp only [lgA, lgB, lgC, Act.put, lsA, lsB, lsC]
      refine' tkz 17 rfl ?_ ?_
      rotate_left
      ·(intro w hSw; (try dsimp only at hSw); go_simp; try (with_reducible rfl))
      try simp only [lgA, lgB, lgC, Act.put, lsA, lsB, lsC]
      refine wpAnyH_ready (rs := [19]) (by kernel_rfl) (by simp) ?_
      refine (AllReadyH.cons rfl (fun K hK => ?_) AllReadyH.nil)
      refine step_store_row (by rfl) 48 (.tmp 9) (.tmp 67) (by rfl) g33 #[.int .u64 co, .int .u64 ch, .slice (some ⟨gl, 0, none⟩) 1 1, .int .u64 cf] (by rfl) (by rfl) 48 _ r42.out infoCv (by rfl) (by simp [Value.oneCell']) ?_
      have AY44 := hid (setRow_heap X39 g33 _ #[.int .u64 co, .int .u64 ch, .slice (some ⟨gl, 0, none⟩) 1 1, .int .u64 cf] 48 (0, 0) r42.out)
      have kY44 := hid (setRow_kp X39 g33 #[.int .u64 co, .int .u64 ch, .slice (some ⟨gl, 0, none⟩) 1 1, .int .u64 cf])
      have r45 := hid (kY44.out.row r40.out (fun e => ne37.out e))
      have r46 := hid (kY44.out.row r41.out (fun e => ne38.out e))
      have DY44 := hid (show Below _ _ _ from DX39.out.trans (kY44.out.below DX39.out.size (fun g hg e => by have := yg33.out; omega)))
      have x47 := hid (own_kp x43.out kY44.out (fun r1 cs1 e1 _ => row_ne e1 r42.out (by decide)))
      have x48 := hid (Ss.Uw.same UG.out (kY44.out.obj _ (Ss.Uw.lt UG.out) (by obtain ⟨cu, hc⟩ := uw_row UG.out; exact row_ne hc r42.out (by decide))))
      obtain ⟨Y44, hY44⟩ : ∃ Y, X39.setRow g33 #[.int .u64 co, .int .u64 ch, .slice (some ⟨gl, 0, none⟩) 1 1, .int .u64 cf] = Y := ⟨_, rfl⟩
      rw [hY44] at AY44 kY44 DY44 r45 r46 x47 x48 ⊢
      clear hY44
      refine hK.out _ _ ?_ (fun hHeld => ?_)
      ·(try dsimp only); exact ⟨row_cell r45.out 1, row_cell r45.out 2, row_cell r45.out 3, row_cell r46.out 0⟩
      clear hK K
      try simp only [lgA, lgB, lgC, Act.put, lsA, lsB, lsC]
      refine' tkz 20 rfl ?_ ?_
      rotate_left
      ·(intro w hSw; (try dsimp only at hSw); go_simp; try (with_reducible rfl))
      try simp only [lgA, lgB, lgC, Act.put, lsA, lsB, lsC]
      refine wpAnyH_done (by kernel_rfl) ?_ _
      exact ⟨(g33, gl), by kernel_rfl, DY44, AY44, x48, yg33⟩
    ·go_simp
     obtain ⟨X49, hX49⟩ : ∃ X, V7.alloc (.cells #[.int .u64 0, .int .u64 0, .slice none 0 0, .int .u64 0] 48) = X := ⟨_, rfl⟩
     have bX49 := hid (show Below V7.heap.size V7 X49 from by rw [← hX49]; exact ball _ _)
     have zX49 : X49.heap[V7.heap.size]? = some (.cells #[.int .u64 0, .int .u64 0, .slice none 0 0, .int .u64 0] 48 (0, 0)) := by rw [← hX49]; exact World.alloc_heap_new _ _
     have DX49 := hid (btr DV7.out bX49.out)
     have r51 := hid (row_on r8.out bX49.out)
     have r52 := hid (row_on r9.out bX49.out)
     have x53 := hid (own_on x10.out bX49.out)
     obtain ⟨g50, hg50⟩ : ∃ g, V7.heap.size = g := ⟨_, rfl⟩
     have ne54 := hid (show b1 ≠ g50 from by have := row_lt r8.out; omega)
     have ne55 := hid (show H ≠ g50 from by have := row_lt r9.out; omega)
     have yg50 := hid (Nat.le_trans DV7.out.size (Nat.le_refl _))
     rw [hg50] at zX49 yg50
     have ZX49 := hid zX49
     rw [hX49, hg50]
     clear hX49 hg50 zX49
     refine hK.out _ _ ?_ (fun hHeld => ?_)
     ·(try dsimp only); exact ⟨row_cell r51.out 1, row_cell r51.out 2, row_cell r51.out 3, row_cell r52.out 0⟩
     clear hK K
     try simp only [lgA, lgB, lgC, Act.put, lsA, lsB, lsC]
     refine wpAnyH_ready (rs := [4]) (by kernel_rfl) (by simp) ?_
     refine (AllReadyH.cons rfl (fun K hK => ?_) AllReadyH.nil)
     go_simp
     go_at_call 88
     with_reducible refine (CO.out X49).mono ?_
     rintro e X56 ⟨rfl, cX56⟩
     have bX56 := hid cX56
     clear cX56
     have DX56 := hid (btr DX49.out bX56.out)
     have r57 := hid (row_on r51.out bX56.out)
     have r58 := hid (row_on r52.out bX56.out)
     have r59 := hid (row_on ZX49.out bX56.out)
     have x60 := hid (own_on x53.out bX56.out)
     (try go_wp2_with fail)
     refine hK.out _ _ ?_ (fun hHeld => ?_)
     ·(try dsimp only); exact ⟨row_cell r57.out 1, row_cell r57.out 2, row_cell r57.out 3, row_cell r58.out 0⟩
     clear hK K
     try simp only [lgA, lgB, lgC, Act.put, lsA, lsB, lsC]
     refine wpAnyH_ready (rs := [14]) (by kernel_rfl) (by simp) ?_
     refine (AllReadyH.cons rfl (fun K hK => ?_) AllReadyH.nil)
     go_simp
     go_at_call 13
     with_reducible refine (CB.out X56 gf cf' (fz_one x60.out)).mono ?_
     rintro e X61 ⟨er1, o1, h1, lf1, p1, l1, rfl, hcv, hfu, cX61⟩
     obtain ⟨rfl, rfl, rfl, rfl, rfl⟩ := HB.out _ _ _ _ _ hcv
     obtain ⟨gl, rfl, hgl, ug⟩ := full_one hfu
     have UG := hid ug
     clear hcv hfu hgl ug
     have bX61 := hid cX61
     clear cX61
     have DX61 := hid (btr DX56.out bX61.out)
     have r62 := hid (row_on r57.out bX61.out)
     have r63 := hid (row_on r58.out bX61.out)
     have r64 := hid (row_on r59.out bX61.out)
     have x65 := hid (own_on x60.out bX61.out)
     (try go_wp2_with fail)
     refine hK.out _ _ ?_ (fun hHeld => ?_)
     ·(try dsimp only); exact ⟨row_cell r62.out 1, row_cell r62.out 2, row_cell r62.out 3, row_cell r63.out 0⟩
     clear hK K
     try simp only [lgA, lgB, lgC, Act.put, lsA, lsB, lsC]
     refine' tkz 15 rfl ?_ ?_
     rotate_left
     ·(intro w hSw; (try dsimp only at hSw); go_simp; try (with_reducible rfl))
     try simp only [lgA, lgB, lgC, Act.put, lsA, lsB, lsC]
     refine' tkz 16 rfl ?_ ?_
     rotate_left
     ·(intro w hSw; (try dsimp only at hSw); go_simp; try (with_reducible rfl))
     try simp only [lgA, lgB, lgC, Act.put, lsA, lsB, lsC]
     refine' tkz 17 rfl ?_ ?_
     rotate_left
     ·(intro w hSw; (try dsimp only at hSw); go_simp; try (with_reducible rfl))
     try simp only [lgA, lgB, lgC, Act.put, lsA, lsB, lsC]
     refine wpAnyH_ready (rs := [19]) (by kernel_rfl) (by simp) ?_
     refine (AllReadyH.cons rfl (fun K hK => ?_) AllReadyH.nil)
     refine step_store_row (by rfl) 48 (.tmp 9) (.tmp 67) (by rfl) g50 #[.int .u64 co, .int .u64 ch, .slice (some ⟨gl, 0, none⟩) 1 1, .int .u64 cf] (by rfl) (by rfl) 48 _ r64.out infoCv (by rfl) (by simp [Value.oneCell']) ?_
     have AY66 := hid (setRow_heap X61 g50 _ #[.int .u64 co, .int .u64 ch, .slice (some ⟨gl, 0, none⟩) 1 1, .int .u64 cf] 48 (0, 0) r64.out)
     have kY66 := hid (setRow_kp X61 g50 #[.int .u64 co, .int .u64 ch, .slice (some ⟨gl, 0, none⟩) 1 1, .int .u64 cf])
     have r67 := hid (kY66.out.row r62.out (fun e => ne54.out e))
     have r68 := hid (kY66.out.row r63.out (fun e => ne55.out e))
     have DY66 := hid (show Below _ _ _ from DX61.out.trans (kY66.out.below DX61.out.size (fun g hg e => by have := yg50.out; omega)))
     have x69 := hid (own_kp x65.out kY66.out (fun r1 cs1 e1 _ => row_ne e1 r64.out (by decide)))
     have x70 := hid (Ss.Uw.same UG.out (kY66.out.obj _ (Ss.Uw.lt UG.out) (by obtain ⟨cu, hc⟩ := uw_row UG.out; exact row_ne hc r64.out (by decide))))
     obtain ⟨Y66, hY66⟩ : ∃ Y, X61.setRow g50 #[.int .u64 co, .int .u64 ch, .slice (some ⟨gl, 0, none⟩) 1 1, .int .u64 cf] = Y := ⟨_, rfl⟩
     rw [hY66] at AY66 kY66 DY66 r67 r68 x69 x70 ⊢
     clear hY66
     refine hK.out _ _ ?_ (fun hHeld => ?_)
     ·(try dsimp only); exact ⟨row_cell r67.out 1, row_cell r67.out 2, row_cell r67.out 3, row_cell r68.out 0⟩
     clear hK K
     try simp only [lgA, lgB, lgC, Act.put, lsA, lsB, lsC]
     refine' tkz 20 rfl ?_ ?_
     rotate_left
     ·(intro w hSw; (try dsimp only at hSw); go_simp; try (with_reducible rfl))
     try simp only [lgA, lgB, lgC, Act.put, lsA, lsB, lsC]
     refine wpAnyH_done (by kernel_rfl) ?_ _
     exact ⟨(g50, gl), by kernel_rfl, DY66, AY66, x70, yg50⟩
   rintro ⟨gC, gl⟩ V ⟨BV, RCV, UGV, LCV⟩
   have BVN := hid (btr HW.out BV.out)
   have R1V := hid (HR1.out V BVN.out)
   have R2V := hid (HR2.out V BVN.out)
   have RHV := hid (HRH.out V BVN.out)
   have R4V := hid (row_on R4.out BVN.out)
   have OAV := hid (own_on OA.out BV.out)
   have HOV := hid (HH.out.on (btr B1.out BVN.out))
   have HG4V := hid (show g4 ≠ gC from by have h1 := row_lt (row_on R4.out HW.out); have h2 := LCV.out; omega)
   have BRV := hid (Below.refl V.heap.size V)
   go_upto_region 13 with fail
   refine reg_cut (X := Unit) (fun a x => (((((((((a.put (some 69) (pb b1)).put (some 70) (.pointer (some ⟨b1, 0, none⟩))).put (some 71) (.pointer (some ⟨b1, 1, none⟩))).put (some 72) (.int .u64 f1)).put (some 73) (.pointer (some ⟨gC, 0, none⟩))).put (some 74) (.int .u64 co)).put (some 75) (.int .u64 (f1 - co))).put (some 76) (.pointer (some ⟨b1, 0, none⟩))).put (some 77) (.pointer (some ⟨b1, 1, none⟩)))) (fun x V3 => Hid (Kp (fun j => j = b1) V V3) ∧ Hid (V3.heap[b1]? = some (.cells #[.int .u32 m1, .int .u64 (f1 - co), .int .u64 (hiW g1), .int .u64 (loW g1), .bool c1, .bool true] 106 (0, 0)))) ?_ ?_
   ·obtain ⟨V71, hV71⟩ : ∃ U, V.drew = U := ⟨_, rfl⟩
    have bV71 := hid (show Below V.heap.size V V71 from by rw [← hV71]; exact bdrew1 _)
    have DV71 := hid (btr BRV.out bV71.out)
    have r72 := hid (row_on R1V.out bV71.out)
    have r73 := hid (row_on RCV.out bV71.out)
    refine wp_region_held_drew (S := (fun U => U.cell? ⟨gC, 0, none⟩ = some (.int .u64 co))) (by kernel_rfl) ?_ (fun hHeld => ?_)
    ·(try dsimp only); rw [hV71]; exact row_cell r73.out 0
    rw [hV71] at hHeld ⊢
    clear hV71
    refine' tkz 0 rfl ?_ ?_
    rotate_left
    ·(intro w hSw; (try dsimp only at hSw); go_simp; try (with_reducible rfl))
    try simp only [lgA, lgB, lgC, Act.put, lsA, lsB, lsC]
    refine' tkz 1 rfl ?_ ?_
    rotate_left
    ·(intro w hSw; (try dsimp only at hSw); go_simp; try (with_reducible rfl))
    try simp only [lgA, lgB, lgC, Act.put, lsA, lsB, lsC]
    refine' tkz 2 rfl ?_ ?_
    rotate_left
    ·(intro w hSw; (try dsimp only at hSw); go_simp; try (with_reducible rfl))
    try simp only [lgA, lgB, lgC, Act.put, lsA, lsB, lsC]
    refine' tkz 4 rfl ?_ ?_
    rotate_left
    ·(intro w hSw; (try dsimp only at hSw); go_simp; try (with_reducible rfl))
    try simp only [lgA, lgB, lgC, Act.put, lsA, lsB, lsC]
    refine' tkz 5 rfl ?_ ?_
    rotate_left
    ·(intro w hSw; (try dsimp only at hSw); go_simp; try (with_reducible rfl))
    try simp only [lgA, lgB, lgC, Act.put, lsA, lsB, lsC]
    refine wpAnyH_ready (rs := [3]) (by kernel_rfl) (by simp) ?_
    refine (AllReadyH.cons rfl (fun K hK => ?_) AllReadyH.nil)
    have z1 := row_cell r72.out 1
    simp only [lqA, lqB, lqC] at z1
    go_simp
    refine hK.out _ _ ?_ (fun hHeld => ?_)
    ·(try dsimp only); exact row_cell r73.out 0
    clear hK K z1
    try simp only [lgA, lgB, lgC, Act.put, lsA, lsB, lsC]
    refine' tkz 6 rfl ?_ ?_
    rotate_left
    ·(intro w hSw; (try dsimp only at hSw); go_simp; try (with_reducible rfl))
    try simp only [lgA, lgB, lgC, Act.put, lsA, lsB, lsC]
    refine' tkz 7 rfl ?_ ?_
    rotate_left
    ·(intro w hSw; (try dsimp only at hSw); go_simp; try (with_reducible rfl))
    try simp only [lgA, lgB, lgC, Act.put, lsA, lsB, lsC]
    refine' tkz 8 rfl ?_ ?_
    rotate_left
    ·(intro w hSw; (try dsimp only at hSw); go_simp; try (with_reducible rfl))
    try simp only [lgA, lgB, lgC, Act.put, lsA, lsB, lsC]
    refine wpAnyH_ready (rs := [9]) (by kernel_rfl) (by simp) ?_
    refine (AllReadyH.cons rfl (fun K hK => ?_) AllReadyH.nil)
    have z9 := row_cell r72.out 1
    simp only [lqA, lqB, lqC] at z9
    have f9 := row_frz r72.out 1
    go_simp
    obtain ⟨Y74, hY74⟩ : ∃ Y, V71.setCell ⟨b1, 1, none⟩ (.int .u64 (f1 - co)) = Y := ⟨_, rfl⟩
    have kY74 := hid (show Kp (fun j => j = b1) V71 Y74 from by rw [← hY74]; exact Kp.set V71 _ _ _)
    have AY74 := hid (show Y74.heap[b1]? = some (.cells #[.int .u32 m1, .int .u64 (f1 - co), .int .u64 (hiW g1), .int .u64 (loW g1), .bool c1, .bool true] 106 (0, 0)) from by rw [← hY74]; exact set_row _ r72.out (by rfl))
    have r75 := hid (kY74.out.row r73.out (row_ne r73.out r72.out (by decide)))
    rw [hY74]
    refine hK.out _ _ ?_ (fun hHeld => ?_)
    ·(try dsimp only); exact row_cell r75.out 0
    clear hK K hY74 z9 f9
    try simp only [lgA, lgB, lgC, Act.put, lsA, lsB, lsC]
    refine wpAnyH_done (by kernel_rfl) ?_ _
    exact ⟨(), by kernel_rfl, hid ((Kp.of (fun j => j = b1) DV71.out).trans kY74.out (fun g _ e => e)), AY74⟩
   rintro - V3 ⟨K3, R13⟩
   have y2 := row_cell R13.out 2
   have y3 := row_cell R13.out 3
   simp only [lqA, lqB, lqC] at y2 y3
   have f2' := row_frz R13.out 2
   have f3' := row_frz R13.out 3
   obtain ⟨V5, hV5⟩ : ∃ V5, (V3.setCell ⟨b1, 2, none⟩ (.int .u64 0)).setCell ⟨b1, 3, none⟩ (.int .u64 0) = V5 := ⟨_, rfl⟩
   have K5 := hid (K3.out.trans (show Kp (fun j => j = b1) V3 V5 from by rw [← hV5]; exact (Kp.set V3 b1 _ _).trans (Kp.set _ b1 _ _) (fun g _ e => e)) (fun g _ e => e))
   have R15 := hid (show V5.heap[b1]? = some (.cells (srow ⟨m1, f1 - co, 0, c1, true⟩) 106 (0, 0)) from by rw [← hV5]; exact set_row _ (set_row #[.int .u32 m1, .int .u64 (f1 - co), .int .u64 0, .int .u64 (loW g1), .bool c1, .bool true] R13.out (by rfl)) (by rfl))
   have HXV := hid hV5
   clear hV5
   go_upto_region 15 with fail
   rw [HXV.out]
   clear y2 y3 f2' f3' HXV
   have HO5 := hid (HOV.out.sset (List.mem_cons_self ..) (s := ⟨m1, f1 - co, 0, c1, true⟩) rfl K5.out R15.out)
   have HS5 := hid (show sset [(b1, (⟨m1, f1, g1, c1, true⟩ : Sv)), (b2, ⟨m2, f2, g2, c2, false⟩)] ⟨m1, f1 - co, 0, c1, true⟩ = [(b1, ⟨m1, f1 - co, 0, c1, true⟩), (b2, ⟨m2, f2, g2, c2, false⟩)] from by
    unfold sset
    simp only [List.map_cons, List.map_nil, if_true]
    rw [if_neg (by have := HM12.out; omega)])
   rw [HS5.out] at HO5
   have n1 : ∀ {r : Nat} {cs : Array Value} {t : TypeId}, V.heap[r]? = some (.cells cs t (0, 0)) → t ≠ 106 → ¬ r = b1 := fun e ht => row_ne e R1V.out ht
   have RH5 := hid (K5.out.row RHV.out (n1 RHV.out (by decide)))
   have RC5 := hid (K5.out.row RCV.out (n1 RCV.out (by decide)))
   have R45 := hid (K5.out.row R4V.out (n1 R4V.out (by decide)))
   have R25 := hid (K5.out.row R2V.out (fun e => HB12.out e.symm))
   have UG5 := hid (UGV.out.same (K5.out.obj _ UGV.out.lt (by obtain ⟨cu, hc⟩ := uw_row UGV.out; exact n1 hc (by decide))))
   have OA5 := hid (own_kp OAV.out K5.out (fun r1 cs1 e1 _ => n1 e1 (by decide)))
   clear n1
   have BR5 := hid (Below.refl V5.heap.size V5)
   refine reg_cut (X := Unit) (fun a x => (((((((((a.put (some 82) (pb H)).put (some 83) (.pointer (some ⟨H, 0, none⟩))).put (some 84) (.pointer (some ⟨H, 0, none⟩))).put (some 85) (.int .u64 o)).put (some 86) (.pointer (some ⟨gC, 1, none⟩))).put (some 87) (.int .u64 ch)).put (some 88) (.int .u64 (o - ch))).put (some 89) (.pointer (some ⟨H, 0, none⟩))).put (some 90) (.pointer (some ⟨H, 0, none⟩)))) (fun x V => Hid (Kp (fun j => j = H) V5 V) ∧ Hid (V.heap[H]? = some (.cells #[.int .u64 (o - ch), .slice (some ⟨gp, 0, none⟩) 2 c, .map M] 100 (0, 0)))) ?_ ?_
   ·obtain ⟨V76, hV76⟩ : ∃ U, V5.drew = U := ⟨_, rfl⟩
    have bV76 := hid (show Below V5.heap.size V5 V76 from by rw [← hV76]; exact bdrew1 _)
    have DV76 := hid (btr BR5.out bV76.out)
    have r77 := hid (row_on RH5.out bV76.out)
    have r78 := hid (row_on RC5.out bV76.out)
    refine wp_region_held_drew (S := (fun U => U.cell? ⟨gC, 1, none⟩ = some (.int .u64 ch))) (by kernel_rfl) ?_ (fun hHeld => ?_)
    ·(try dsimp only); rw [hV76]; exact row_cell r78.out 1
    rw [hV76] at hHeld ⊢
    clear hV76
    refine' tkz 0 rfl ?_ ?_
    rotate_left
    ·(intro w hSw; (try dsimp only at hSw); go_simp; try (with_reducible rfl))
    try simp only [lgA, lgB, lgC, Act.put, lsA, lsB, lsC]
    refine' tkz 1 rfl ?_ ?_
    rotate_left
    ·(intro w hSw; (try dsimp only at hSw); go_simp; try (with_reducible rfl))
    try simp only [lgA, lgB, lgC, Act.put, lsA, lsB, lsC]
    refine' tkz 2 rfl ?_ ?_
    rotate_left
    ·(intro w hSw; (try dsimp only at hSw); go_simp; try (with_reducible rfl))
    try simp only [lgA, lgB, lgC, Act.put, lsA, lsB, lsC]
    refine' tkz 4 rfl ?_ ?_
    rotate_left
    ·(intro w hSw; (try dsimp only at hSw); go_simp; try (with_reducible rfl))
    try simp only [lgA, lgB, lgC, Act.put, lsA, lsB, lsC]
    refine' tkz 5 rfl ?_ ?_
    rotate_left
    ·(intro w hSw; (try dsimp only at hSw); go_simp; try (with_reducible rfl))
    try simp only [lgA, lgB, lgC, Act.put, lsA, lsB, lsC]
    refine wpAnyH_ready (rs := [3]) (by kernel_rfl) (by simp) ?_
    refine (AllReadyH.cons rfl (fun K hK => ?_) AllReadyH.nil)
    have z0 := row_cell r77.out 0
    simp only [lqA, lqB, lqC] at z0
    go_simp
    refine hK.out _ _ ?_ (fun hHeld => ?_)
    ·(try dsimp only); exact row_cell r78.out 1
    clear hK K z0
    try simp only [lgA, lgB, lgC, Act.put, lsA, lsB, lsC]
    refine' tkz 6 rfl ?_ ?_
    rotate_left
    ·(intro w hSw; (try dsimp only at hSw); go_simp; try (with_reducible rfl))
    try simp only [lgA, lgB, lgC, Act.put, lsA, lsB, lsC]
    refine' tkz 7 rfl ?_ ?_
    rotate_left
    ·(intro w hSw; (try dsimp only at hSw); go_simp; try (with_reducible rfl))
    try simp only [lgA, lgB, lgC, Act.put, lsA, lsB, lsC]
    refine' tkz 8 rfl ?_ ?_
    rotate_left
    ·(intro w hSw; (try dsimp only at hSw); go_simp; try (with_reducible rfl))
    try simp only [lgA, lgB, lgC, Act.put, lsA, lsB, lsC]
    refine wpAnyH_ready (rs := [9]) (by kernel_rfl) (by simp) ?_
    refine (AllReadyH.cons rfl (fun K hK => ?_) AllReadyH.nil)
    have z9 := row_cell r77.out 0
    simp only [lqA, lqB, lqC] at z9
    have f9 := row_frz r77.out 0
    go_simp
    obtain ⟨Y79, hY79⟩ : ∃ Y, V76.setCell ⟨H, 0, none⟩ (.int .u64 (o - ch)) = Y := ⟨_, rfl⟩
    have kY79 := hid (show Kp (fun j => j = H) V76 Y79 from by rw [← hY79]; exact Kp.set V76 _ _ _)
    have AY79 := hid (show Y79.heap[H]? = some (.cells #[.int .u64 (o - ch), .slice (some ⟨gp, 0, none⟩) 2 c, .map M] 100 (0, 0)) from by rw [← hY79]; exact set_row _ r77.out (by rfl))
    have r80 := hid (kY79.out.row r78.out (row_ne r78.out r77.out (by decide)))
    rw [hY79]
    refine hK.out _ _ ?_ (fun hHeld => ?_)
    ·(try dsimp only); exact row_cell r80.out 1
    clear hK K hY79 z9 f9
    try simp only [lgA, lgB, lgC, Act.put, lsA, lsB, lsC]
    refine wpAnyH_done (by kernel_rfl) ?_ _
    exact ⟨(), by kernel_rfl, hid ((Kp.of (fun j => j = H) DV76.out).trans kY79.out (fun g _ e => e)), AY79⟩
   rintro - V6 ⟨K6, RH6⟩
   have HO6 := hid (HO5.out.ownc K6.out RH6.out)
   have nH : ∀ {r : Nat} {cs : Array Value} {t : TypeId}, V5.heap[r]? = some (.cells cs t (0, 0)) → t ≠ 100 → ¬ r = H := fun e ht => row_ne e RH5.out ht
   have RC6 := hid (K6.out.row RC5.out (nH RC5.out (by decide)))
   have R46 := hid (K6.out.row R45.out (nH R45.out (by decide)))
   have R26 := hid (K6.out.row R25.out (nH R25.out (by decide)))
   have UG6 := hid (UG5.out.same (K6.out.obj _ UG5.out.lt (by obtain ⟨cu, hc⟩ := uw_row UG5.out; exact nH hc (by decide))))
   have OA6 := hid (own_kp OA5.out K6.out (fun r1 cs1 e1 _ => nH e1 (by decide)))
   clear nH
   have oa := own_cells' OA6.out (j := 0) rfl
   have hca := (own_capn OA6.out).1
   go_upto_region 17 with fail
   go_loopw [93] (fun iv wr2 => (iv = .int .i64 0 ∧ wr2 = V6) ∨ (iv = .int .i64 1 ∧ Hid (Kp (fun j => j = b2) V6 wr2) ∧ Hid (wr2.heap[b2]? = some (.cells #[.int .u32 m2, .int .u64 (f2 - cl), .int .u64 (hiW g2), .int .u64 (loW g2), .bool c2, .bool false] 106 (0, 0))))) (fun iv _ => 1 - (intOf iv).toNat)
   case atStart => exact .inl ⟨rfl, rfl⟩
   case round =>
    rcases hrel with ⟨rfl, hw⟩ | ⟨rfl, K7, R27⟩
    ·subst hw
     go_upto_region 19 with fail
     have BR6 := hid (Below.refl wr.heap.size wr)
     obtain ⟨V81, hV81⟩ : ∃ U, wr.drew = U := ⟨_, rfl⟩
     have bV81 := hid (show Below wr.heap.size wr V81 from by rw [← hV81]; exact bdrew1 _)
     have DV81 := hid (btr BR6.out bV81.out)
     have r82 := hid (row_on R26.out bV81.out)
     have r83 := hid (row_on RC6.out bV81.out)
     have x84 := hid (Ss.Uw.on UG6.out bV81.out)
     refine wp_region_held_drew (S := (fun U => U.cell? ⟨gC, 2, none⟩ = some (.slice (some ⟨gl, 0, none⟩) 1 1) ∧ U.cell? ⟨gl, 0, none⟩ = some (.int .u64 cl))) (by kernel_rfl) ?_ (fun hHeld => ?_)
     ·(try dsimp only); rw [hV81]; exact ⟨row_cell r83.out 2, x84.out.cell (i := 0) (by decide)⟩
     rw [hV81] at hHeld ⊢
     clear hV81
     refine' tkz 0 rfl ?_ ?_
     rotate_left
     ·(intro w hSw; (try dsimp only at hSw); go_simp; try (with_reducible rfl))
     try simp only [lgA, lgB, lgC, Act.put, lsA, lsB, lsC]
     refine' tkz 1 rfl ?_ ?_
     rotate_left
     ·(intro w hSw; (try dsimp only at hSw); go_simp; try (with_reducible rfl))
     try simp only [lgA, lgB, lgC, Act.put, lsA, lsB, lsC]
     refine' tkz 2 rfl ?_ ?_
     rotate_left
     ·(intro w hSw; (try dsimp only at hSw); go_simp; try (with_reducible rfl))
     try simp only [lgA, lgB, lgC, Act.put, lsA, lsB, lsC]
     refine' tkz 4 rfl ?_ ?_
     rotate_left
     ·(intro w hSw; (try dsimp only at hSw); go_simp; try (with_reducible rfl))
     try simp only [lgA, lgB, lgC, Act.put, lsA, lsB, lsC]
     refine' tkz 5 rfl ?_ ?_
     rotate_left
     ·(intro w hSw; (try dsimp only at hSw); go_simp; try (with_reducible rfl))
     try simp only [lgA, lgB, lgC, Act.put, lsA, lsB, lsC]
     refine' tkz 6 rfl ?_ ?_
     rotate_left
     ·(intro w hSw; (try dsimp only at hSw); go_simp; try (with_reducible rfl))
     try simp only [lgA, lgB, lgC, Act.put, lsA, lsB, lsC]
     refine' tkz 7 rfl ?_ ?_
     rotate_left
     ·(intro w hSw; (try dsimp only at hSw); go_simp; try (with_reducible rfl))
     try simp only [lgA, lgB, lgC, Act.put, lsA, lsB, lsC]
     refine' tkz 8 rfl ?_ ?_
     rotate_left
     ·(intro w hSw; (try dsimp only at hSw); go_simp; try (with_reducible rfl))
     try simp only [lgA, lgB, lgC, Act.put, lsA, lsB, lsC]
     refine wpAnyH_ready (rs := [3]) (by kernel_rfl) (by simp) ?_
     refine (AllReadyH.cons rfl (fun K hK => ?_) AllReadyH.nil)
     have z1 := row_cell r82.out 1
     simp only [lqA, lqB, lqC] at z1
     go_simp
     refine hK.out _ _ ?_ (fun hHeld => ?_)
     ·(try dsimp only); exact ⟨row_cell r83.out 2, x84.out.cell (i := 0) (by decide)⟩
     clear hK K z1
     try simp only [lgA, lgB, lgC, Act.put, lsA, lsB, lsC]
     refine' tkz 9 rfl ?_ ?_
     rotate_left
     ·(intro w hSw; (try dsimp only at hSw); go_simp; try (with_reducible rfl))
     try simp only [lgA, lgB, lgC, Act.put, lsA, lsB, lsC]
     refine' tkz 10 rfl ?_ ?_
     rotate_left
     ·(intro w hSw; (try dsimp only at hSw); go_simp; try (with_reducible rfl))
     try simp only [lgA, lgB, lgC, Act.put, lsA, lsB, lsC]
     refine' tkz 11 rfl ?_ ?_
     rotate_left
     ·(intro w hSw; (try dsimp only at hSw); go_simp; try (with_reducible rfl))
     try simp only [lgA, lgB, lgC, Act.put, lsA, lsB, lsC]
     refine wpAnyH_ready (rs := [12]) (by kernel_rfl) (by simp) ?_
     refine (AllReadyH.cons rfl (fun K hK => ?_) AllReadyH.nil)
     have z9 := row_cell r82.out 1
     simp only [lqA, lqB, lqC] at z9
     have f9 := row_frz r82.out 1
     go_simp
     obtain ⟨Y85, hY85⟩ : ∃ Y, V81.setCell ⟨b2, 1, none⟩ (.int .u64 (f2 - cl)) = Y := ⟨_, rfl⟩
     have kY85 := hid (show Kp (fun j => j = b2) V81 Y85 from by rw [← hY85]; exact Kp.set V81 _ _ _)
     have AY85 := hid (show Y85.heap[b2]? = some (.cells #[.int .u32 m2, .int .u64 (f2 - cl), .int .u64 (hiW g2), .int .u64 (loW g2), .bool c2, .bool false] 106 (0, 0)) from by rw [← hY85]; exact set_row _ r82.out (by rfl))
     have r86 := hid (kY85.out.row r83.out (row_ne r83.out r82.out (by decide)))
     have x87 := hid (Ss.Uw.same x84.out (kY85.out.obj _ (Ss.Uw.lt x84.out) (by obtain ⟨cu, hc⟩ := uw_row x84.out; exact row_ne hc r82.out (by decide))))
     rw [hY85]
     refine hK.out _ _ ?_ (fun hHeld => ?_)
     ·(try dsimp only); exact ⟨row_cell r86.out 2, x87.out.cell (i := 0) (by decide)⟩
     clear hK K hY85 z9 f9
     try simp only [lgA, lgB, lgC, Act.put, lsA, lsB, lsC]
     refine wpAnyH_done (by kernel_rfl) ?_ _
     (try go_wp2)
     go_roundw
     case rel => exact .inr ⟨rfl, hid ((Kp.of (fun j => j = b2) DV81.out).trans kY85.out (fun g _ e => e)), AY85⟩
     case measure => simp [intOf]
    ·have n2 : ∀ {r : Nat} {cs : Array Value} {t : TypeId}, V6.heap[r]? = some (.cells cs t (0, 0)) → t ≠ 106 → ¬ r = b2 := fun e ht => row_ne e R26.out ht
     have RC7 := hid (K7.out.row RC6.out (n2 RC6.out (by decide)))
     have R47 := hid (K7.out.row R46.out (n2 R46.out (by decide)))
     have HO7 := hid (HO6.out.sset (List.mem_cons_of_mem _ (List.mem_cons_self ..)) (s := ⟨m2, f2 - cl, g2, c2, false⟩) rfl K7.out R27.out)
     have HS7 := hid (show sset [(b1, (⟨m1, f1 - co, 0, c1, true⟩ : Sv)), (b2, ⟨m2, f2, g2, c2, false⟩)] ⟨m2, f2 - cl, g2, c2, false⟩ = [(b1, ⟨m1, f1 - co, 0, c1, true⟩), (b2, ⟨m2, f2 - cl, g2, c2, false⟩)] from by
      unfold sset
      simp only [List.map_cons, List.map_nil, if_true]
      rw [if_neg (by have := HM12.out; omega)])
     rw [HS7.out] at HO7
     clear n2
     have q0 := row_cell RC7.out 0
     have q1 := row_cell RC7.out 1
     have q2 := row_cell RC7.out 2
     have q3 := row_cell RC7.out 3
     simp only [lqA, lqB, lqC] at q0 q1 q2 q3
     go_wp2_with (refine wpList_store_row (by rfl) 48 (.tmp 4) (.tmp 111) (by rfl) g4 #[.int .u64 co, .int .u64 ch, .slice (some ⟨gl, 0, none⟩) 1 1, .int .u64 cf] (by rfl) (by rfl) 48 _ R47.out infoCv (by rfl) (by simp [Value.oneCell']) ?_)
     have K8 := setRow_kp wr g4 #[.int .u64 co, .int .u64 ch, .slice (some ⟨gl, 0, none⟩) 1 1, .int .u64 cf]
     have g4n : ∀ j, Ob H (some ⟨gp, 0, none⟩) (bks [(b1, (⟨m1, f1 - co, 0, c1, true⟩ : Sv)), (b2, ⟨m2, f2 - cl, g2, c2, false⟩)]) M j → ¬ j = g4 := fun j hj e => by
      subst e
      exact HO7.out.ne R47.out (by decide) (by decide) (by decide) hj
     refine bodyPost_ret (res_c Tryz.results73 _ _ g4 48 #[.int .u64 co, .int .u64 ch, .slice (some ⟨gl, 0, none⟩) 1 1, .int .u64 cf] (0, 0) _ (by rfl) (setRow_heap _ _ _ _ 48 (0, 0) R47.out) Tryz.underlying48 rfl infoCv) rfl ⟨⟨_, rfl⟩, HO7.out.kept K8 g4n, ?_⟩
     have k1 := (Kp.of (fun j => j = H ∨ j = b1 ∨ j = b2) (btr B1.out BVN.out)).trans K5.out (fun g _ e => .inr (.inl e))
     have k2 := k1.trans K6.out (fun g _ e => .inl e)
     have k3 := k2.trans K7.out (fun g _ e => .inr (.inr e))
     exact k3.trans K8 (fun g hg e => by have := HG4.out; omega)
end Go.Proofs.YtlhbgaiiehljpaaGreat.Ac
