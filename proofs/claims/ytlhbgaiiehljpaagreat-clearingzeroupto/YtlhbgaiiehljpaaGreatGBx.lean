/-
  LvV
-/
import Derived.Test.YtlhbgaiiehljpaaGreatGAa
import Derived.Test.YtlhbgaiiehljpaaGreatLvU
namespace Go.Proofs.YtlhbgaiiehljpaaGreat.Ac
open List renaming getElem_toArray → lgA, getElem_cons_succ → lgB, getElem_cons_zero → lgC, setIfInBounds_toArray → lsA, set_cons_zero → lsB, set_cons_succ → lsC
open Go.RowKit Go.Deep Go.Maps MonM Go.Proofs.YtlhbgaiiehljpaaGreat
set_option linter.unusedVariables false
set_option linter.unusedSimpArgs false
set_option maxHeartbeats 8000000
set_option maxRecDepth 100000
attribute [local go_sem ↓] Go.wp_at_zero Go.wp_at_succ
theorem gm_in {l : List (Nat × Sv)} (m : Int) : (gm l m).ou = true → ∃ y ∈ l, y.2.m = m ∧ gm l m = y.2 := by
 unfold gm
 cases e : l.find? fun z => z.2.m == m with
 | none => intro h; cases h
 | some z =>
  intro _
  exact ⟨z, List.mem_of_find?_eq_some e, by simpa using List.find?_some e, rfl⟩
theorem drop_none {H : Nat} {o : Int} {p : Option Addr} {c : Nat} {l : List (Nat × Sv)} {b : Nat} {n : Nat} {f : HoP} (w : World) (h : Ho w H o p c l (some b) n f) (hn : n < 1000000000) (ho : ∀ y ∈ l, y.2.ou = false) (hm : ∀ k x, f k = some x → ∃ y ∈ l, y.2.m = k.1) (q : Option Addr) (d : Nat) :
  Calls Tryz.prog 44 #[pb H, .slice q 0 d] w fun e w' => e = .returned (.slice none 0 0) ∧ Ho w' H o p c l (some b) (n + 1) f ∧ Kp (fun j => j = b) w w' := by
 have CT := hid (takeOver_any w h hn [] (fun ks lf _ _ => by
  rw [List.filter_eq_nil_iff]
  intro k _ hk
  obtain ⟨y, hy, _, e⟩ := gm_in k.1 hk
  have h2 : outK l k = y.2.ou := congrArg Sv.ou e
  rw [h2, ho y hy] at hk
  cases hk) hm (.inl rfl))
 clear h hn ho hm
 go_enter Tryz.func44, Tryz.ntmps44
 go_upto_region 2 with fail
 go_loopw [12] (fun iv wr => iv = .int .i64 0 ∧ wr = w) (fun _ _ => 0)
 case atStart => exact ⟨rfl, rfl⟩
 case round =>
  obtain ⟨rfl, hw⟩ := hrel
  subst hw
  go_upto_region 9 with (go_at_call 72; with_reducible refine CT.out.mono ?_; rintro e w2 ⟨rfl, h1, h2⟩; have H1 := hid h1; have K1 := hid h2; clear h1 h2)
  go_loopw [7, 27] (fun fv iv wr2 => fv = .slice none 0 0 ∧ iv = .int .i64 0 ∧ wr2 = w2) (fun _ _ _ => 0)
  case atStart => exact ⟨rfl, rfl, rfl⟩
  case round =>
   obtain ⟨rfl, rfl, hw⟩ := hrel
   subst hw
   go_wp2
   go_ret
   exact ⟨rfl, H1.out, K1.out⟩
theorem infoFa : (Tryz.prog.info? 71).map (fun i => (i.zero, i.size, i.bytes)) = some (some (.agg #[.int .u32 0, .int .u64 0, .int .u64 0, .slice none 0 0, .int .u64 0]), 5, 56) := by kernel_rfl
theorem drop_one (b1 b2 : Nat) (m1 f1 g1 m2 f2 g2 i : Int) (c1 c2 : Bool) {H : Nat} {o : Int} {p : Option Addr} {c : Nat} {b : Nat} {n : Nat} {f : HoP} (w : World) (h : Ho w H o p c [(b1, ⟨m1, f1, g1, c1, false⟩), (b2, ⟨m2, f2, g2, c2, false⟩)] (some b) n f) (hn : n < 1000000000)
  (ha : Amt g1) (h0 : g1 < 0) (h1 : -18446744073709551616 < g1) (hf1 : 0 ≤ f1 ∧ f1 < 18446744073709551616) (hf2 : 0 ≤ f2 ∧ f2 < 18446744073709551616) (ho : 0 ≤ o ∧ o < 18446744073709551616) (co ch cl cf : Int)
  (hb : ∀ er o' h' l lf, Ss.CvR (-g1) f1 o [f2] er o' h' l lf → 0 = er ∧ co = o' ∧ ch = h' ∧ [cl] = l ∧ cf = lf) (d1 : 0 ≤ co ∧ co ≤ f1) (d2 : 0 ≤ ch ∧ ch ≤ o) (d3 : 0 ≤ cl ∧ cl ≤ f2)
  (hG : ∀ ks lf, Sd f lf ks → (∀ k, kvP.ok k → lf k = false) → ks.filter (outK [(b1, ⟨m1, f1, g1, false, true⟩), (b2, ⟨m2, f2, g2, c2, false⟩)]) = [(m1, i)])
  (hm : ∀ k x, f k = some x → ∃ y ∈ [(b1, (⟨m1, f1, g1, false, true⟩ : Sv)), (b2, ⟨m2, f2, g2, c2, false⟩)], y.2.m = k.1)
  (q v : Int) (hf : f (m1, i) = some ⟨q, v⟩) (hf0 : f (0, i) = none) (hq : q ≠ 0) (hv : Amt v) (hqb : -1099511627776 ≤ q ∧ q ≤ 1099511627776) (hm0 : m1 ≠ 0) (hum : U32 m1) (hui : U32 i)
  (bf : Nat) (qf : Option Addr) (df : Nat) (own : w.ownsRow bf 104 1 (.slice qf 1 df) 1 [pb b1]) :
  Calls Tryz.prog 44 #[pb H, .slice qf 1 df] w fun e w' => (∃ gf cf' q9, e = .returned (.slice (some ⟨gf, 0, none⟩) 1 cf') ∧ w'.ownsRow w.heap.size 71 5 (.slice (some ⟨gf, 0, none⟩) 1 cf') 1 [.int .u32 m1, .int .u64 co, .int .u64 ch, .slice q9 1 1, .int .u64 cf]) ∧ Ho w' H (o - ch) p c [(b1, ⟨m1, f1 - co, 0, false, true⟩), (b2, ⟨m2, f2 - cl, g2, c2, false⟩)] (some b) (n + 1) (fT [(m1, i)] f) ∧ Kp (fun j => j = H ∨ j = b1 ∨ j = b2 ∨ j = b) w w' := by
 have m12 : m1 < m2 := by have := h.up; unfold Up at this; simp at this; exact this
 have b12 : b1 ≠ b2 := by have := h.nd; simp at this; exact this
 have HM12 := hid m12
 have HB12 := hid b12
 have HH := hid h
 have HSS := hid (show sset [(b1, (⟨m1, f1, g1, c1, false⟩ : Sv)), (b2, ⟨m2, f2, g2, c2, false⟩)] ⟨m1, f1, g1, false, true⟩ = [(b1, ⟨m1, f1, g1, false, true⟩), (b2, ⟨m2, f2, g2, c2, false⟩)] from by
  unfold sset
  simp only [List.map_cons, List.map_nil, if_true]
  rw [if_neg (by omega)])
 have CT := hid (fun (U : World) (hU : Ho U H o p c [(b1, ⟨m1, f1, g1, false, true⟩), (b2, ⟨m2, f2, g2, c2, false⟩)] (some b) n f) => takeOver_any U hU hn [(m1, i)] hG hm (.inr ⟨m1, i, q, v, rfl, hf, hf0, hq, hv, hqb, hm0, hum, hui⟩))
 have CC := hid (fun (U : World) (hU : Ho U H o p c [(b1, ⟨m1, f1, g1, false, true⟩), (b2, ⟨m2, f2, g2, c2, false⟩)] (some b) (n + 1) (fT [(m1, i)] f)) => cover_two b1 b2 m1 f1 g1 m2 f2 g2 false c2 U hU ha h0 h1 hf1 hf2 ho co ch cl cf hb d1 d2 d3)
 have R1 := hid (show w.heap[b1]? = some (.cells #[.int .u32 m1, .int .u64 f1, .int .u64 (hiW g1), .int .u64 (loW g1), .bool c1, .bool false] 106 (0, 0)) from h.me.st _ (List.mem_cons_self ..))
 have OW := hid own
 obtain ⟨gq, eq, oc⟩ : ∃ g, qf = some ⟨g, 0, none⟩ ∧ w.cell? ⟨g, 0, none⟩ = some (pb b1) := by
  obtain ⟨g, u, e1, e2, e3⟩ := own_cell own (i := 0) (by decide)
  injection e2 with e2
  exact ⟨g, e1, by rw [e3, e2]⟩
 subst eq
 have hdf := (own_capn own).1
 obtain ⟨iF, hiF, hzF, hsF, hyF⟩ := info_parts infoFa
 have IF := hid (And.intro hiF (And.intro hzF (And.intro hsF hyF)))
 obtain ⟨W0, HW0⟩ : ∃ W, Hid (W = w) := ⟨_, rfl⟩
 clear h hn ha h0 h1 hf1 hf2 ho hb d1 d2 d3 hG hm hf hf0 hq hv hqb hm0 hum hui own m12 b12 hiF hzF hsF hyF
 go_enter Tryz.func44, Tryz.ntmps44
 go_upto_region 2 with fail
 go_loopw [12] (fun iv wr => (iv = .int .i64 0 ∧ wr = w) ∨ (iv = .int .i64 1 ∧ Hid (Kp (fun j => j = b1) w wr) ∧ Hid (wr.heap[b1]? = some (.cells #[.int .u32 m1, .int .u64 f1, .int .u64 (hiW g1), .int .u64 (loW g1), .bool false, .bool true] 106 (0, 0))))) (fun iv _ => 1 - (intOf iv).toNat)
 case atStart => exact .inl ⟨rfl, rfl⟩
 case round =>
  rcases hrel with ⟨rfl, hw⟩ | ⟨rfl, K1, RB⟩
  ·subst hw
   have f4 := row_frz R1.out 4
   have f5 := row_frz R1.out 5
   have y4 := row_cell R1.out 4
   have y5 := row_cell R1.out 5
   simp only [List.getElem?_toArray, List.getElem?_cons_succ, List.getElem?_cons_zero] at y4 y5
   obtain ⟨X, hX⟩ : ∃ X, (wr.setCell ⟨b1, 4, none⟩ (.bool false)).setCell ⟨b1, 5, none⟩ (.bool true) = X := ⟨_, rfl⟩
   have kx := hid (show Kp (fun j => j = b1) wr X from by rw [← hX]; exact (Kp.set wr b1 _ _).trans (Kp.set _ b1 _ _) (fun g _ e => e))
   have RX := hid (show X.heap[b1]? = some (.cells #[.int .u32 m1, .int .u64 f1, .int .u64 (hiW g1), .int .u64 (loW g1), .bool false, .bool true] 106 (0, 0)) from by rw [← hX]; exact set_row _ (set_row #[.int .u32 m1, .int .u64 f1, .int .u64 (hiW g1), .int .u64 (loW g1), .bool false, .bool false] R1.out (by rfl)) (by rfl))
   have HXX := hid hX
   clear hX
   go_wp2
   rw [HXX.out]
   go_roundw
   case rel => exact .inr ⟨rfl, kx, RX⟩
   case measure => simp [intOf]
  ·have HO1 := hid (HH.out.sset (List.mem_cons_self ..) (s := ⟨m1, f1, g1, false, true⟩) rfl K1.out RB.out)
   rw [HSS.out] at HO1
   have CT2 := hid (CT.out wr HO1.out)
   have OW1 := hid (own_kp OW.out K1.out (fun r1 cs1 e1 _ => row_ne e1 R1.out (by decide)))
   clear oc
   go_upto_region 8 with (go_at_call 72; with_reducible refine CT2.out.mono ?_; rintro e w2 ⟨rfl, h1, h2⟩; have HO2 := hid h1; have K2 := hid h2; clear h1 h2)
   have nmb : ∀ {r : Nat} {cs : Array Value} {t : TypeId}, wr.heap[r]? = some (.cells cs t (0, 0)) → ¬ r = b := fun e e2 => by
    obtain ⟨es, cl, e3⟩ := Mp.obj HO1.out.mp
    rw [e2, e3] at e
    cases e
   have OW2 := hid (own_kp OW1.out K2.out (fun r1 cs1 e1 _ => nmb e1))
   have oc := own_cells' OW2.out (j := 0) rfl
   clear nmb
   go_upto_region 9 with fail
   obtain ⟨wo, rfl⟩ : ∃ x, x = wr := ⟨_, rfl⟩
   go_loopw [7, 27] (fun fv iv wr => (iv = .int .i64 0 ∧ fv = .slice none 0 0 ∧ wr = w2) ∨ (iv = .int .i64 1 ∧ ∃ gf cf' q9, fv = .slice (some ⟨gf, 0, none⟩) 1 cf' ∧ Hid (wr.ownsRow w2.heap.size 71 5 (.slice (some ⟨gf, 0, none⟩) 1 cf') 1 [.int .u32 m1, .int .u64 co, .int .u64 ch, .slice q9 1 1, .int .u64 cf]) ∧ Hid (Ho wr H (o - ch) p c [(b1, ⟨m1, f1 - co, 0, false, true⟩), (b2, ⟨m2, f2 - cl, g2, c2, false⟩)] (some b) (n + 1) (fT [(m1, i)] f)) ∧ Hid (Kp (fun j => j = H ∨ j = b1 ∨ j = b2) w2 wr))) (fun _ iv _ => 1 - (intOf iv).toNat)
   case atStart => exact .inl ⟨rfl, rfl, rfl⟩
   case round =>
    rcases hrel with ⟨rfl, rfl, hw⟩ | ⟨rfl, gf, cf', q9, rfl, OFa, HO3, K3⟩
    ·subst hw
     go_upto_region 11 with fail
     clear oc
     have R1b := hid (show wr.heap[b1]? = some (.cells #[.int .u32 m1, .int .u64 f1, .int .u64 (hiW g1), .int .u64 (loW g1), .bool false, .bool true] 106 (0, 0)) from HO2.out.me.st _ (List.mem_cons_self ..))
     have HOr := hid HO2.out
     have BRF := hid (Below.refl wr.heap.size wr)
     obtain ⟨V1, hV1⟩ : ∃ U, wr.drew = U := ⟨_, rfl⟩
     have bV1 := hid (show Below wr.heap.size wr V1 from by rw [← hV1]; exact bdrew1 _)
     have DV1 := hid (btr BRF.out bV1.out)
     have r2 := hid (row_on R1b.out bV1.out)
     have x3 := hid (HOr.out.on bV1.out)
     refine wp_region_held_drew (S := (fun U => U.cell? ⟨b1, 0, none⟩ = some (.int .u32 m1))) (by kernel_rfl) ?_ (fun hHeld => ?_)
     ·(try dsimp only); rw [hV1]; exact row_cell r2.out 0
     rw [hV1] at hHeld ⊢
     clear hV1
     refine' tkz 0 rfl ?_ ?_
     rotate_left
     ·(intro w hSw; (try dsimp only at hSw); go_simp; try (with_reducible rfl))
     try simp only [lgA, lgB, lgC, Act.put, lsA, lsB, lsC]
     refine' tkz 1 rfl ?_ ?_
     rotate_left
     ·(intro w hSw; (try dsimp only at hSw); go_simp; try (with_reducible rfl))
     try simp only [lgA, lgB, lgC, Act.put, lsA, lsB, lsC]
     refine' tkz 2 rfl ?_ ?_
     rotate_left
     ·(intro w hSw; (try dsimp only at hSw); go_simp; try (with_reducible rfl))
     try simp only [lgA, lgB, lgC, Act.put, lsA, lsB, lsC]
     refine' tkz 3 rfl ?_ ?_
     rotate_left
     ·(intro w hSw; (try dsimp only at hSw); go_simp; try (with_reducible rfl))
     try simp only [lgA, lgB, lgC, Act.put, lsA, lsB, lsC]
     refine' tkz 4 rfl ?_ ?_
     rotate_left
     ·(intro w hSw; (try dsimp only at hSw); go_simp; try (with_reducible rfl))
     try simp only [lgA, lgB, lgC, Act.put, lsA, lsB, lsC]
     refine' tkz 5 rfl ?_ ?_
     rotate_left
     ·(intro w hSw; (try dsimp only at hSw); go_simp; try (with_reducible rfl))
     try simp only [lgA, lgB, lgC, Act.put, lsA, lsB, lsC]
     refine' tkz 6 rfl ?_ ?_
     rotate_left
     ·(intro w hSw; (try dsimp only at hSw); go_simp; try (with_reducible rfl))
     try simp only [lgA, lgB, lgC, Act.put, lsA, lsB, lsC]
     refine wpAnyH_ready (rs := [7]) (by kernel_rfl) (by simp) ?_
     refine (AllReadyH.cons rfl (fun K hK => ?_) AllReadyH.nil)
     go_simp
     go_at_call 73
     with_reducible refine (CC.out V1 x3.out).mono ?_
     rintro e w8 ⟨⟨q9, rfl⟩, h1, h2⟩
     have HO8 := hid h1
     have K8 := hid h2
     clear h1 h2
     have R18 := hid (show w8.heap[b1]? = some (.cells #[.int .u32 m1, .int .u64 (f1 - co), .int .u64 (hiW 0), .int .u64 (loW 0), .bool false, .bool true] 106 (0, 0)) from HO8.out.me.st _ (List.mem_cons_self ..))
     have BR8 := hid (Below.refl w8.heap.size w8)
     (try go_wp2_with fail)
     refine hK.out _ _ ?_ (fun hHeld => ?_)
     ·(try dsimp only); exact row_cell R18.out 0
     clear hK K
     try simp only [lgA, lgB, lgC, Act.put, lsA, lsB, lsC]
     refine' tkz 8 rfl ?_ ?_
     rotate_left
     ·(intro w hSw; (try dsimp only at hSw); go_simp; try (with_reducible rfl))
     try simp only [lgA, lgB, lgC, Act.put, lsA, lsB, lsC]
     refine wpAnyH_ready (rs := [9]) (by kernel_rfl) (by simp) ?_
     refine (AllReadyH.cons rfl (fun K hK => ?_) AllReadyH.nil)
     go_simp
     obtain ⟨X4, hX4⟩ : ∃ X, w8.alloc (.cells #[.int .u32 m1, .int .u64 co, .int .u64 ch, .slice q9 1 1, .int .u64 cf] 71) = X := ⟨_, rfl⟩
     have bX4 := hid (show Below w8.heap.size w8 X4 from by rw [← hX4]; exact ball _ _)
     have zX4 : X4.heap[w8.heap.size]? = some (.cells #[.int .u32 m1, .int .u64 co, .int .u64 ch, .slice q9 1 1, .int .u64 cf] 71 (0, 0)) := by rw [← hX4]; exact World.alloc_heap_new _ _
     have DX4 := hid (btr BR8.out bX4.out)
     have r6 := hid (row_on R18.out bX4.out)
     obtain ⟨g5, hg5⟩ : ∃ g, w8.heap.size = g := ⟨_, rfl⟩
     have ne7 := hid (show b1 ≠ g5 from by have := row_lt R18.out; omega)
     have yg5 := hid (Nat.le_trans BR8.out.size (Nat.le_refl _))
     rw [hg5] at zX4 yg5
     have ZX4 := hid zX4
     rw [hX4, hg5]
     clear hX4 hg5 zX4
     refine hK.out _ _ ?_ (fun hHeld => ?_)
     ·(try dsimp only); exact row_cell r6.out 0
     clear hK K
     try simp only [lgA, lgB, lgC, Act.put, lsA, lsB, lsC]
     refine wpAnyH_ready (rs := [10]) (by kernel_rfl) (by simp) ?_
     refine (AllReadyH.cons rfl (fun K hK => ?_) AllReadyH.nil)
     have hsz8 : wr.heap.size ≤ X4.heap.size := Nat.le_trans (Nat.le_trans DV1.out.size K8.out.size) DX4.out.size
     refine step_append_lies X4 (by rfl) (.tmp 31) (.tmp 40) 64 (by rfl) wr.heap.size 71 iF _ 5 56 Tryz.underlying64 IF.out.1 IF.out.2.1 IF.out.2.2.1 IF.out.2.2.2 rfl (by decide) _ 0 [] (by rfl) (own_nil _ _ _ _) ⟨g5, 0, none⟩ 1 1 [.int .u32 m1, .int .u64 co, .int .u64 ch, .slice q9 1 1, .int .u64 cf] (by rfl) (by rfl) (fun j u hj => by rw [Addr.add_lit, Nat.zero_add, row_cell ZX4.out]; simpa using hj) (by simp [Value.oneCell']) (by decide) (by decide) (by decide) hsz8 _ rfl (fun gf cf' wf h1 h2 h3 h4 => ?_)
     have Of := hid h1
     have Gf := hid h2
     clear h1 h2 h3 h4
     have Bf := hid (show Below w8.heap.size w8 wf from btr DX4.out ⟨Gf.out.os, Gf.out.tape, Gf.out.output, Gf.out.size, fun j hj => Gf.out.block j hj (fun e => by cases e)⟩)
     have R1f := hid (row_on R18.out Bf.out)
     refine hK.out _ _ ?_ (fun hHeld => ?_)
     ·(try dsimp only); exact row_cell R1f.out 0
     clear hK K
     try simp only [lgA, lgB, lgC, Act.put, lsA, lsB, lsC]
     refine' tkz 11 rfl ?_ ?_
     rotate_left
     ·(intro w hSw; (try dsimp only at hSw); go_simp; try (with_reducible rfl))
     try simp only [lgA, lgB, lgC, Act.put, lsA, lsB, lsC]
     refine wpAnyH_done (by kernel_rfl) ?_ _
     (try go_wp2)
     go_roundw
     case rel => exact .inr ⟨rfl, gf, cf', q9, rfl, Of, hid (HO8.out.on Bf.out), hid (((Kp.of (fun j => j = H ∨ j = b1 ∨ j = b2) DV1.out).trans K8.out (fun g _ e => e)).trans (Kp.of (fun _ => False) Bf.out) (fun g _ e => e.elim))⟩
     case measure => simp [intOf]
    ·go_wp2
     go_ret
     refine ⟨⟨gf, cf', q9, rfl, ?_⟩, HO3.out, ?_⟩
     ·exact own_base OFa.out (Nat.le_trans K1.out.size K2.out.size)
     ·have k1 : Kp (fun j => j = H ∨ j = b1 ∨ j = b2 ∨ j = b) w wo := K1.out.mono (fun g _ e => .inr (.inl e))
      have k2 := k1.trans K2.out (fun g _ e => .inr (.inr (.inr e)))
      exact k2.trans K3.out (fun g _ e => by rcases e with e | e | e <;> simp [e])
end Go.Proofs.YtlhbgaiiehljpaaGreat.Ac
namespace Go.Proofs.YtlhbgaiiehljpaaGreat.Ac
open Go.RowKit Go.Deep Go.Maps MonM Go.Proofs.YtlhbgaiiehljpaaGreat
set_option linter.unusedVariables false
set_option linter.unusedSimpArgs false
set_option maxHeartbeats 8000000
set_option maxRecDepth 100000
attribute [local go_sem ↓] Go.wp_at_zero Go.wp_at_succ
theorem close_any {H : Nat} {o : Int} {p : Option Addr} {c : Nat} {l : List (Nat × Sv)} {b : Nat} {n : Nat} {f : HoP} (w : World) (h : Ho w H o p c l (some b) n f) (hn : n < 1000000000) (ri rp ra rb : Int) (R : Nat) (hr : w.heap[R]? = some (.cells #[.int .u32 ri, .int .i64 rp, .int .u32 ra, .int .u32 rb] 61 (0, 0))) (hi : U32 ri) (p0 : 0 ≤ rp) (p1 : rp < 262144) (b0 : rb ≠ 0) (ab : ra ≤ rb) (hs : SOk f ri l) (hu : ∀ y ∈ l, U32 y.2.m)
  (l1 : List (Nat × Sv)) (f1 : HoP) (hset : ∀ lf ks, Sd f lf ks → (∀ k, kvP.ok k → lf k = false) → ks.foldl (stepL f rp) l = l1 ∧ ks.foldl (stepF f rp) f = f1)
  (hb1 : bks l1 = bks l) (hs1 : SOk f1 ri l1) (hu1 : ∀ y ∈ l1, U32 y.2.m) (nd : Int × Int → Int) (er : Int) (hnd : ∀ k, Amt (nd k))
  (hpo : ∀ k x, f1 k = some x → ∀ U, Calls Tryz.prog 71 #[mv (rp * szq x.q), .int .u32 ra, .int .u32 rb, .int .i64 1] U fun e w' => e = .returned (.tuple #[mv (nd k), .int .i64 er]) ∧ Below U.heap.size U w')
  (g : Int → Option Int) (hneed : ∀ lf ks, Sd f1 lf ks → (∀ k, kvP.ok k → lf k = false) → ks.foldl (stepN nd) (fun _ => none) = g)
  (Φ : World → Nat → Value → World → Prop)
  (hd : ∀ U b0 qf df, Ho U H o p c (pcl g l1) (some b) n f1 → U.ownsRow b0 104 1 (.slice qf (l1.flatMap (flOf g)).length df) (l1.flatMap (flOf g)).length (pbs (l1.flatMap (flOf g))) → Calls Tryz.prog 44 #[pb H, .slice qf (l1.flatMap (flOf g)).length df] U fun e w' => (∃ v, e = .returned v ∧ Φ U U.heap.size v w') ∧ Kp (Ob H p (bks l) (some b)) U w') :
  Calls Tryz.prog 17 #[pb H, .slice (some ⟨R, 0, none⟩) 1 1] w fun e w' => ∃ qc dc v U, e = .returned (.tuple #[.slice qc (l1.flatMap (clOf g)).length dc, v, .int .i64 0]) ∧ w'.ownsRow w.heap.size 68 5 (.slice qc (l1.flatMap (clOf g)).length dc) (l1.flatMap (clOf g)).length (clv (l1.flatMap (clOf g))) ∧ w.heap.size ≤ U.heap.size ∧ Φ U U.heap.size v w' ∧ Kp (Ob H p (bks l) (some b)) w w' := by
 have CR := hid (rated_one w h ri rp ra rb R hr hi p0 p1 b0 ab (fun k x e => (hs.i k x e).1))
 have HH := hid h
 have HN := hid hn
 have HQ := hid (And.intro p0 p1)
 have HS := hid hs
 have HSET := hid hset
 have HBK := hid hb1
 have HS1 := hid hs1
 have HU1 := hid hu1
 have HND := hid hnd
 have HPO := hid hpo
 have HNE := hid hneed
 have HD := hid hd
 have HOB := hid (show ∀ j, Ob H p (bks l) (some b) j → j < w.heap.size from fun j hj => h.lt hj)
 clear h hn hr hi p0 p1 b0 ab hs hu hset hb1 hs1 hu1 hnd hpo hneed hd
 go_enter Tryz.func17, Tryz.ntmps17
 go_upto_region 4 with (go_at_call 40; with_reducible refine CR.out.mono ?_; rintro e w1 ⟨M, rfl, h1, h2, h3⟩; have LM := hid h1; have HM := hid h2; have B1 := hid h3; clear h1 h2 h3)
 have nMo : ¬ Ob H p (bks l) (some b) M := fun e => by have := HOB.out M e; have := LM.out; omega
 have NMO := hid nMo
 have CS := hid (settle_any w1 (HH.out.on B1.out) HN.out ri rp ra rb M 1 HM.out (fun e => nMo (by rw [e]; exact .inr (.inr (.inr rfl)))) HQ.out.1 HQ.out.2 HS.out)
 clear nMo
 go_upto_region 5 with (go_at_call 41; with_reducible refine CS.out.mono ?_; rintro e w2 ⟨rfl, lf, ks, h1, h2, h3, h4, h5⟩; have SD := hid h1; have SL := hid h2; have HO2 := hid h3; have SO2 := hid h4; have K2 := hid h5; clear h1 h2 h3 h4 h5)
 obtain ⟨e1, e2⟩ := HSET.out lf ks SD.out SL.out
 rw [e1, e2] at HO2
 rw [e1] at SO2
 have HM2 := hid (HM.out.kept K2.out NMO.out)
 have CN := hid (needs_any w2 HO2.out HN.out ri rp ra rb M 1 HM2.out HQ.out.1 HQ.out.2 HS1.out nd er HND.out HPO.out)
 clear e1 e2
 have CC := hid (fun (U : World) (hU : Below w2.heap.size w2 U) (N k : Nat) (hg : Mp kvU U N k g) (hga : AmtG g) => call_any U (HO2.out.on hU) HS1.out.a N k g hg hga HU1.out)
 go_upto_region 6 with (first
  | (go_at_call 43; with_reducible refine CN.out.mono ?_; rintro e w3 ⟨N, k, lf3, ks3, rfl, h1, h2, h3, h4, h5, h6⟩; have hge := HNE.out lf3 ks3 h1 h2; rw [hge] at h3 h4; have HG3 := hid h3; have HA3 := hid h4; have B3 := hid h6; clear h1 h2 h3 h4 h5 h6 hge)
  | (go_at_call 42; with_reducible refine (CC.out _ B3.out _ _ HG3.out HA3.out).mono ?_; rintro e w4 ⟨qc, nc, dc, qf, nf, df, rfl, h1, h2, h3, h4, h5, h6⟩; have HNC := hid h1; have HNF := hid h2; clear h1 h2; have HO4 := hid h3; have OC4 := hid h4; have OF4 := hid h5; have K4 := hid h6; clear h3 h4 h5 h6))
 have CD := hid (HD.out w4 w3.heap.size qf df)
 rw [← HNF.out] at CD
 have CD := hid (CD.out HO4.out OF4.out)
 go_wp2_with (go_at_call 44; with_reducible refine CD.out.mono ?_; rintro e w5 ⟨⟨v, rfl, h1⟩, h2⟩; have HΦ := hid h1; have K5 := hid h2; clear h1 h2)
 refine bodyPost_ret (v := .tuple #[.slice qc nc dc, v, .int .i64 0]) (by simp [results, Tryz.results17, go_sem]) rfl ⟨qc, dc, v, w4, ?_, ?_, ?_, HΦ.out, ?_⟩
 ·rw [← HNC.out]
 ·have oc : w4.ownsRow w.heap.size 68 5 (.slice qc (l1.flatMap (clOf g)).length dc) (l1.flatMap (clOf g)).length (clv (l1.flatMap (clOf g))) := own_base (by rw [← HNC.out]; exact OC4.out) (Nat.le_trans (Nat.le_trans B1.out.size K2.out.size) B3.out.size)
  have oc5 := own_kp oc K5.out (fun r1 cs1 e1 hr1 e2 => by have := HOB.out r1 e2; omega)
  rw [← HNC.out] at oc5
  rw [← HNC.out]
  exact oc5
 ·exact Nat.le_trans (Nat.le_trans (Nat.le_trans B1.out.size K2.out.size) B3.out.size) K4.out.size
 ·have k1 := (Kp.of (Ob H p (bks l) (some b)) B1.out).trans K2.out (fun g _ e => e)
  have k2 := k1.trans (Kp.of (fun _ => False) B3.out) (fun g _ e => e.elim)
  have k3 := k2.trans K4.out (fun g _ e => by rw [HBK.out] at e; exact .inr (.inr (.inl e)))
  exact k3.trans K5.out (fun g _ e => e)
end Go.Proofs.YtlhbgaiiehljpaaGreat.Ac
