/-
  RuH RuI
-/
import Derived.Test.YtalgndgoedlpoaaRuG
import Derived.Deep.RegionLaw
import Derived.Deep.Cut
namespace Go.Proofs.Ytalgndgoedlpoaa
section
open Go.RowKit Go.Deep Go.Shelf
set_option linter.unusedVariables false
set_option linter.unusedSimpArgs false
set_option maxHeartbeats 4000000
set_option maxRecDepth 100000
def nx (s : Int) : Int := IntKind.u64.wrap (s + 1)
def Bs.told (b : Bs) : Bs := { b with seq := nx b.seq }
def Ev.num (e : Ev) (s : Int) : Ev := { e with sq := s }
/-- the blocks that are told into. -/
def tfp (T B : Nat) (ve : Value) (j : Nat) : Prop := j = T ∨ j = B ∨ ve.ownBlock = some j
theorem own_form {base : Nat} {w : World} {e : TypeId} {size n : Nat} {v : Value} {xs : List Value} (h : w.ownsRow base e size v n xs) : ∃ p c, v = .slice p n c := by
 obtain ⟨_, ⟨rfl, rfl⟩ | ⟨g, c, cur, rfl, _⟩⟩ := h
 ·exact ⟨none, 0, rfl⟩
 ·exact ⟨_, _, rfl⟩
theorem tell_any (T B : Nat) (b : Bs) (ve : Value) (es : List Ev) (e : Ev) (w : World) (h : Tn w T B b ve es) (hn : es.length ≤ 17179869184) :
  Calls Try.prog 47 #[.pointer (some ⟨T, 0, none⟩), .agg (ecs e).toArray] w fun r w' => r = .returned (.tuple #[]) ∧ ∃ ve', Tn w' T B b.told ve' (es ++ [e.num (nx b.seq)]) ∧ (∀ j, ve'.ownBlock = some j → ve.ownBlock = some j ∨ w.heap.size ≤ j) ∧ Kp (tfp T B ve) w w' := by
 obtain ⟨s, hs⟩ : ∃ s, nx b.seq = s := ⟨_, rfl⟩
 have hs' : IntKind.u64.wrap (b.seq + 1) = s := hs
 obtain ⟨E, hE⟩ : ∃ E, w.heap.size = E := ⟨_, rfl⟩
 obtain ⟨W1, hW1⟩ : ∃ W1, w.alloc (.cells (ecs e).toArray 58) = W1 := ⟨_, rfl⟩
 have hb1 : Below w.heap.size w W1 := by rw [← hW1]; exact ball _ _
 have hE1 : W1.heap[E]? = some (.cells (ecs e).toArray 58 (0, 0)) := by rw [← hW1, ← hE]; exact World.alloc_heap_new _ _
 have h1 := h.on hb1
 obtain ⟨W2, hW2⟩ : ∃ W2, (W1.setCell ⟨B, 5, none⟩ (.int .u64 s)).setCell ⟨E, 0, none⟩ (.int .u64 s) = W2 := ⟨_, rfl⟩
 have hTB : T ≠ B := row_ne h1.row h1.bm.row (by decide)
 have hTE : T ≠ E := row_ne h1.row hE1 (by decide)
 have hBE : B ≠ E := row_ne h1.bm.row hE1 (by decide)
 have hvE : ∀ j, ve.ownBlock = some j → j ≠ E := fun j hj => by obtain ⟨c, hc⟩ := own_ty h.ev hj; have := row_lt hc; omega
 have hvB : ∀ j, ve.ownBlock = some j → j ≠ B := fun j hj => by obtain ⟨c, hc⟩ := own_ty h1.ev hj; exact row_ne hc h1.bm.row (by decide)
 have hvT : ∀ j, ve.ownBlock = some j → j ≠ T := fun j hj => by obtain ⟨c, hc⟩ := own_ty h1.ev hj; exact row_ne hc h1.row (by decide)
 have kW : Kp (fun j => j = B ∨ j = E) W1 W2 := by
  rw [← hW2]
  exact ((Kp.set W1 B 5 _).mono (fun _ _ h => Or.inl h)).trans (Kp.set _ E 0 _) (fun _ _ h => .inr h)
 have hT2 : W2.heap[T]? = some (.cells #[.pointer (some ⟨B, 0, none⟩), ve] 64 (0, 0)) := kW.row h1.row (by rintro (h | h); exact hTB h; exact hTE h)
 have hE2 : W2.heap[E]? = some (.cells (ecs (e.num s)).toArray 58 (0, 0)) := by
  have : (W1.setCell ⟨B, 5, none⟩ (.int .u64 s)).heap[E]? = some (.cells (ecs e).toArray 58 (0, 0)) := (Kp.set W1 B 5 _).row hE1 (fun h => hBE h.symm)
  rw [← hW2, set_row _ this]
  rfl
 have hb2 : Bm W2 B b.told := by
  rw [← hW2]
  have h2 : Bm (W1.setCell ⟨B, 5, none⟩ (.int .u64 s)) B b.told := h1.bm.put (by rw [← hs]; rfl) rfl rfl rfl rfl rfl rfl
  refine h2.kept (Kp.set _ E 0 _) (fun j hj => ?_)
  exact h2.ne (k := E) ((Kp.set W1 B 5 _).row hE1 (fun h => hBE h.symm)) (by decide) (by decide) (by decide) hj
 have hev : W2.ownsRow 0 58 13 ve es.length (evs es) := own_same h1.ev (fun j hj => kW.obj j (by obtain ⟨c, hc⟩ := own_ty h1.ev hj; exact row_lt hc) (by rintro (h | h); exact hvB j hj h; exact hvE j hj h))
 obtain ⟨p, c, rfl⟩ := own_form h.ev
 subst hE
 have HW1 := hid hW1
 have HW2 := hid hW2
 have H1 := hid h1
 have HB2 := hid hb2
 have HT2 := hid hT2
 have HE2 := hid hE2
 have HEV := hid hev
 have HK1 := hid hb1
 have HKW := hid kW
 have HVE := hid hvE
 have HVB := hid hvB
 have HVT := hid hvT
 have HS := hid hs
 have tT := row_cell h1.row 0
 have tB := row_cell h1.bm.row 5
 have fB := row_frz h1.bm.row 5
 have tE := row_cell hE1 0
 have fE := row_frz hE1 0
 simp only [Bs.row, ecs, List.getElem?_toArray, List.getElem?_cons_succ, List.getElem?_cons_zero] at tT tB tE
 clear hW1 hW2 h h1 hb2 hT2 hE2 hev hb1 kW hvE hvB hvT hs hE1
 go_enter Try.func47, Try.ntmps47
 go_upto_region 1 with fail
 rw [HW1.out]
 go_upto_region 3 with fail
 rw [HW2.out]
 obtain ⟨i0, hi0, hz0, hz1, hz2⟩ := info_parts info58all
 have HI := hid hi0
 have HZ0 := hid hz0
 have HZ1 := hid hz1
 have HZ2 := hid hz2
 clear hi0 hz0 hz1 hz2
 have HOX := hid (fun (X : World) (hX : Below W2.heap.size W2 X) => own_on HEV.out hX)
 have HTX := hid (fun (X : World) (hX : Below W2.heap.size W2 X) => row_on HT2.out hX)
 have HNW := hid (fun (X : World) (hX : X.heap[W2.heap.size]? = some (.cells (ecs (e.num s)).toArray 58 (0, 0))) => fun j u (hj : (ecs (e.num s))[j]? = some u) => (show X.cell? ((⟨W2.heap.size, 0, none⟩ : Addr).add j) = some u from by
  rw [Addr.add_lit, Nat.zero_add, row_cell hX]; simpa using hj))
 have tT2 := row_cell HT2.out 1
 have sT := row_lt HT2.out
 have sE := row_lt HE2.out
 have nT : T ≠ W2.heap.size := by omega
 have nE : w.heap.size ≠ W2.heap.size := by omega
 have e0 := row_cell HE2.out 0
 have e1 := row_cell HE2.out 1
 have e2 := row_cell HE2.out 2
 have e3 := row_cell HE2.out 3
 have e4 := row_cell HE2.out 4
 have e5 := row_cell HE2.out 5
 have e6 := row_cell HE2.out 6
 have e7 := row_cell HE2.out 7
 have e8 := row_cell HE2.out 8
 have e9 := row_cell HE2.out 9
 have e10 := row_cell HE2.out 10
 have e11 := row_cell HE2.out 11
 have e12 := row_cell HE2.out 12
 simp only [ecs, List.getElem?_toArray, List.getElem?_cons_succ, List.getElem?_cons_zero] at tT2 e0 e1 e2 e3 e4 e5 e6 e7 e8 e9 e10 e11 e12
 clear tT tB fB tE fE
 go_region_law (refine step_append_lies _ (by rfl) (.tmp 26) (.tmp 28) 35 (by rfl) 0 58 i0 _ 13 104 Try.underlying35 HI.out HZ0.out HZ1.out HZ2.out rfl (by decide) _ es.length (evs es) (by rfl) (HOX.out _ (by first | exact btr (bdrew1 _) (ball _ _) | exact btr (ball _ _) (bdrew1 _))) ⟨W2.heap.size, 0, none⟩ 1 1 (ecs (e.num s)) (by rfl) rfl (HNW.out _ (by first | exact World.alloc_heap_new W2 _ | exact World.alloc_heap_new W2.drew _)) (ecs_one _) (by decide) (by unfold maxLen; omega) (by omega) (Nat.zero_le _) (W2.heap.size + 1) (by simp) ?_; intro g cap w3 hown hgrow hat hlt; have hT3 := hid ((hgrow.block T (by simp; omega) (fun e => HVT.out T e.symm rfl)).trans (HTX.out _ (by first | exact btr (bdrew1 _) (ball _ _) | exact btr (ball _ _) (bdrew1 _)))); have hG := hid (fun j (hj : j < W2.heap.size) (hne : ¬ (Value.slice p es.length c).ownBlock = some j) => (hgrow.block j (by simp; omega) (fun e => hne e.symm)).trans ((show Below W2.heap.size W2 _ from (by first | exact btr (bdrew1 _) (ball _ _) | exact btr (ball _ _) (bdrew1 _))).block j hj)); have hGo := hid (And.intro hgrow.os (And.intro hgrow.tape (And.intro hgrow.output hgrow.size))); have c3 := row_cell hT3.out 1; have f3 := row_frz hT3.out 1; simp only [List.getElem?_toArray, List.getElem?_cons_succ, List.getElem?_cons_zero] at c3; have HOW := hid hown; have HAT := hid hat; clear hown hgrow hat)
 all_goals go_end0
 all_goals (
  have k3 : Kp (fun j => (Value.slice p es.length c).ownBlock = some j) W2 w3 := ⟨hGo.out.1, hGo.out.2.1, hGo.out.2.2.1, Nat.le_trans (by simp) hGo.out.2.2.2, fun j hj hne => hG.out j hj hne⟩
  have k4 : Kp (fun j => j = T ∨ (Value.slice p es.length c).ownBlock = some j) W2 (w3.setCell ⟨T, 1, none⟩ (.slice (some ⟨g, 0, none⟩) (es.length + 1) cap)) := (k3.mono (fun _ _ h => Or.inr h)).trans (Kp.set _ T 1 _) (fun _ _ h => .inl h)
  have gT : g ≠ T := by
   rcases HAT.out with h | h
   ·exact HVT.out g h
   ·omega
  refine ⟨rfl, .slice (some ⟨g, 0, none⟩) (es.length + 1) cap, ⟨HB2.out.kept k4 (fun j hj => ?_), ?_, ?_⟩, fun j hj => ?_, ?_⟩
  ·rintro (h | h)
   ·exact HB2.out.ne HT2.out (by decide) (by decide) (by decide) hj h
   ·obtain ⟨c', hc⟩ := own_ty HEV.out h
    exact HB2.out.ne hc (by decide) (by decide) (by decide) hj rfl
  ·exact set_row _ hT3.out
  ·rw [List.length_append, List.length_singleton, evs_snoc, HS.out]
   exact own_same HOW.out (fun j hj => by cases hj; exact heap_setCell_other _ _ _ _ (by show g ≠ T; exact gT))
  ·obtain rfl : g = j := Option.some.inj hj
   rcases HAT.out with h | h
   ·exact .inl h
   ·right
    have a1 := HK1.out.size
    have a2 := HKW.out.size
    omega
  ·refine ((Kp.of (tfp T B (.slice p es.length c)) HK1.out).trans HKW.out ?_).trans k4 ?_
   ·rintro j hj (h | h)
    ·exact .inr (.inl h)
    ·omega
   ·rintro j hj (h | h)
    ·exact .inl h
    ·exact .inr (.inr h))
end
section
open Go.RowKit Go.Deep Go.Shelf
set_option linter.unusedVariables false
set_option linter.unusedSimpArgs false
set_option maxHeartbeats 4000000
set_option maxRecDepth 100000
def evC (id q r : Int) : Ev := ⟨0, 4, id, 0, 0, 0, 0, 0, 0, q, 0, r, 0⟩
/-- what a call that tells leaves. -/
def Told (w : World) (T B : Nat) (b' : Bs) (ve : Value) (es' : List Ev) (S : Nat → Prop) (w' : World) : Prop :=
 ∃ ve', Tn w' T B b' ve' es' ∧ (∀ j, ve'.ownBlock = some j → ve.ownBlock = some j ∨ w.heap.size ≤ j) ∧ Kp S w w'
theorem end_any (T B : Nat) (b : Bs) (ve : Value) (es : List Ev) (id q r : Int) (w : World) (h : Tn w T B b ve es) (hn : es.length ≤ 17179869184) :
  Calls Try.prog 50 #[.pointer (some ⟨T, 0, none⟩), .int .u64 id, .int .u64 q, .int .i64 r] w fun e w' => e = .returned (.tuple #[]) ∧ Told w T B b.told ve (es ++ [(evC id q r).num (nx b.seq)]) (tfp T B ve) w' := by
 have C := tell_any T B b ve es (evC id q r) w h hn
 simp only [ecs, evC] at C
 have HC := hid C
 clear C h
 go_enter Try.func50, Try.ntmps50
 go_wp2_with (go_at_call 47; with_reducible refine (HC.out).mono ?_; rintro e w1 ⟨rfl, h1⟩)
 go_end0
 exact ⟨rfl, h1⟩
theorem side_any (B k : Nat) (w : World) (hk : k < 2) : Calls Try.prog 48 #[.pointer (some ⟨B, 0, none⟩), .int .i64 ((k : Int) + 1)] w fun e w' => e = .returned (.pointer (some ⟨B, 2 + k, none⟩)) ∧ w' = w := by
 have hh : k = 0 ∨ k = 1 := by omega
 rcases hh with rfl | rfl
 ·go_enter Try.func48, Try.ntmps48
  go_wp2
  go_ret
  exact ⟨rfl, rfl⟩
 ·go_enter Try.func48, Try.ntmps48
  go_wp2
  go_ret
  exact ⟨rfl, rfl⟩
theorem len_any (B : Nat) (b : Bs) (w : World) (h : Bm w B b) (hn : b.l1.length + b.l2.length ≤ 1048576) : Calls Try.prog 16 #[.pointer (some ⟨B, 0, none⟩)] w fun e w' => e = .returned (.int .i64 ((b.l1.length : Int) + b.l2.length)) ∧ ∃ n, w' = w.drewN n := by
 have c2 := row_cell h.row 2
 have c3 := row_cell h.row 3
 simp only [Bs.row, List.getElem?_toArray, List.getElem?_cons_succ, List.getElem?_cons_zero] at c2 c3
 obtain ⟨n1, e1⟩ : ∃ n, b.l1.length = n := ⟨_, rfl⟩
 obtain ⟨n2, e2⟩ : ∃ n, b.l2.length = n := ⟨_, rfl⟩
 rw [e1] at c2 hn ⊢
 rw [e2] at c3 hn ⊢
 clear h e1 e2
 go_enter Try.func16, Try.ntmps16
 go_wp2
 go_quiet (fail)
 go_wp2
 go_ret
 exact ⟨rfl, _, rfl⟩
def oz : Or := ⟨0, 0, 0, 0, 0, 0, 0⟩
/-- an order and its side, and whether there is one. -/
def fo (b : Bs) (id : Int) : Or × Int × Bool :=
 if h : 0 ≤ fnd id b.l1 then ((b.l1[(fnd id b.l1).toNat]'(by have := fnd_ge id b.l1; omega)).2, 1, true)
 else if h : 0 ≤ fnd id b.l2 then ((b.l2[(fnd id b.l2).toNat]'(by have := fnd_ge id b.l2; omega)).2, 2, true)
 else (oz, 0, false)
theorem index88 (a : Array Value) (i : Nat) (v : Value) (w : World) (hi : i < 2) (hv : a[i]? = some v) : (Instr.index 88 (.agg a) (.int .i64 (i : Int))).run Try.prog w = .ok v w := by
 have u := Try.underlying88
 have a1 := Try.isAgg87
 have z1 := Try.sizeOf87
 simp [Instr.index, asIntOf, run_underlying u, part, a1, z1, hv, hi, Sem.run_bind, Result.andThen]
theorem info50 : (Try.prog.info? 50).map (·.size) = some 7 := by kernel_rfl
theorem orow_info (z : Or) : (Try.prog.info? 50).map (·.size) = some (orow z).size := info50
theorem orow_all (z : Or) : (orow z).all (·.oneCell') = true := by simp [orow, Value.oneCell']
theorem orow_size (y z : Or) : (orow y).size = (orow z).size := rfl
theorem res15 (tmps : Array Value) (w : World) (R : Nat) (o : Or) (s v : Value) (h4 : tmps.getD 4 undef = .pointer (some ⟨R, 0, none⟩)) (h5 : tmps.getD 5 undef = s) (h6 : tmps.getD 6 undef = v) (hg : w.heap[R]? = some (.cells (orow o) 50 (0, 0))) :
  (results Try.f15 tmps).run Try.prog w = .ok (.tuple #[.agg (orow o), s, v]) w := by
 have hl := run_loadVar_row (P := Try.prog) w R 50 50 (orow o) (0, 0) _ hg Try.underlying50 rfl info50
 simp only [Array.getD_eq_getD_getElem?] at h4 h5 h6
 simp [results, Try.results15, asAddr, hl, h4, h5, h6]
theorem findB_any (B : Nat) (b : Bs) (id : Int) (w : World) (h : Bm w B b) (hn : b.l1.length + b.l2.length ≤ 1048576) :
  Calls Try.prog 15 #[.pointer (some ⟨B, 0, none⟩), .int .u64 id] w fun e w' => e = .returned (.tuple #[.agg (orow (fo b id).1), .int .i64 (fo b id).2.1, .bool (fo b id).2.2]) ∧ Below w.heap.size w w' := by
 obtain ⟨W, hW⟩ : ∃ W, w.alloc (.cells (orow oz) 50) = W := ⟨_, rfl⟩
 have hb : Below w.heap.size w W := by rw [← hW]; exact ball _ _
 have hR : W.heap[w.heap.size]? = some (.cells (orow oz) 50 (0, 0)) := by rw [← hW]; exact World.alloc_heap_new _ _
 have hB := h.on hb
 have c2 := row_cell hB.row 2
 have c3 := row_cell hB.row 3
 simp only [Bs.row, List.getElem?_toArray, List.getElem?_cons_succ, List.getElem?_cons_zero] at c2 c3
 have ix0 : ∀ U, (Instr.index 88 (.agg #[.slice b.p1 b.l1.length b.c1, .slice b.p2 b.l2.length b.c2]) (.int .i64 0)).run Try.prog U = .ok (.slice b.p1 b.l1.length b.c1) U := fun U => index88 _ 0 _ U (by decide) rfl
 have ix1 : ∀ U, (Instr.index 88 (.agg #[.slice b.p1 b.l1.length b.c1, .slice b.p2 b.l2.length b.c2]) (.int .i64 1)).run Try.prog U = .ok (.slice b.p2 b.l2.length b.c2) U := fun U => index88 _ 1 _ U (by decide) rfl
 have C1 := hid (find_any b.p1 b.c1 b.l1 id W hB.li1 (by omega))
 have C2 := hid (fun U (hU : Below W.heap.size W U) => find_any b.p2 b.c2 b.l2 id U (hB.li2.on hU) (by omega))
 have g1 := fnd_ge id b.l1
 have g2 := fnd_ge id b.l2
 have HW := hid hW
 have HB := hid hB
 have HR := hid hR
 have HBW := hid hb
 clear h hW hb hB hR
 by_cases f1 : 0 ≤ fnd id b.l1
 ·obtain ⟨i, hi⟩ : ∃ i : Nat, fnd id b.l1 = i := ⟨(fnd id b.l1).toNat, by omega⟩
  have hil : i < b.l1.length := by omega
  have hfo : fo b id = ((b.l1[i]).2, 1, true) := by
   unfold fo
   rw [dif_pos f1]
   simp [hi]
  rw [hfo]
  rw [hi] at C1
  have i0 : (0 : Int) ≤ (i : Int) := by omega
  have i1 : (i : Int) < (b.l1.length : Int) := by omega
  have HC := hid (fun (U : World) (hU : Below W.heap.size W U) => (HB.out.li1.on hU).cell hil)
  have HRU := hid (fun (U : World) (hU : Below W.heap.size W U) => row_on HR.out hU)
  obtain ⟨g, hp, _⟩ := HB.out.li1.cell hil
  obtain ⟨z, hz⟩ : ∃ z, (b.l1[i]).2 = z := ⟨_, rfl⟩
  obtain ⟨bl, hbl⟩ : ∃ z, (b.l1[i]).1 = z := ⟨_, rfl⟩
  rw [hz, hbl] at HC
  rw [hz]
  clear hfo f1 g1 g2 hi hz hbl
  rw [hp] at c2 ix0 ix1 C1 HC
  go_enter Try.func15, Try.ntmps15
  go_upto_region 1 with fail
  have e0 := HW.out
  simp only [orow, oz] at e0
  rw [e0]
  clear e0
  go_wp2_with fail
  refine wp_loop_rounds 3 ?_
  rw [rounds_succ]
  go_wp2_with (first
   | (go_at_call 39; with_reducible refine (C1.out).mono ?_; rintro e w1 ⟨rfl, hb1⟩; obtain ⟨g', hp', hc, hr⟩ := HC.out w1 hb1; simp only [pv] at hc; have hp' := hid hp'; have HRB := hid hr; have HRR := hid (HRU.out w1 hb1); have HB1 := hid hb1; clear hr hb1)
   | (refine wpList_load_row (by rfl) 50 (.tmp 27) (by rfl) bl (by rfl) 50 (orow z) (0, 0) _ HRB.out Try.underlying50 rfl (orow_info z) ?_)
   | (refine wpList_store_row (by rfl) 50 (.tmp 4) (.tmp 28) (by rfl) w.heap.size (orow z) (by rfl) (by rfl) 50 (orow oz) HRR.out (orow_info z) (orow_size oz z) (orow_all z) ?_))
  refine bodyPost_ret (res15 _ _ w.heap.size z (.int .i64 1) (.bool true) (by rfl) (by rfl) (by rfl) (setRow_heap _ _ _ _ 50 (0, 0) HRR.out)) rfl ?_
  refine ⟨by first | rfl | simp, ?_⟩
  exact btr HBW.out HB1.out |>.trans ((setRow_kp _ _ _).below (btr HBW.out HB1.out).size (fun b hb e => by omega))
 ·have f1' : fnd id b.l1 = -1 := by omega
  rw [f1'] at C1
  by_cases f2 : 0 ≤ fnd id b.l2
  ·obtain ⟨i, hi⟩ : ∃ i : Nat, fnd id b.l2 = i := ⟨(fnd id b.l2).toNat, by omega⟩
   have hil : i < b.l2.length := by omega
   have hfo : fo b id = ((b.l2[i]).2, 2, true) := by
    unfold fo
    rw [dif_neg f1, dif_pos f2]
    simp [hi]
   rw [hfo]
   rw [hi] at C2
   have i0 : (0 : Int) ≤ (i : Int) := by omega
   have i1 : (i : Int) < (b.l2.length : Int) := by omega
   have HC := hid (fun (U : World) (hU : Below W.heap.size W U) => (HB.out.li2.on hU).cell hil)
   have HRU := hid (fun (U : World) (hU : Below W.heap.size W U) => row_on HR.out hU)
   obtain ⟨g, hp, _⟩ := HB.out.li2.cell hil
   obtain ⟨z, hz⟩ : ∃ z, (b.l2[i]).2 = z := ⟨_, rfl⟩
   obtain ⟨bl, hbl⟩ : ∃ z, (b.l2[i]).1 = z := ⟨_, rfl⟩
   rw [hz, hbl] at HC
   rw [hz]
   clear hfo f1 f1' f2 g1 g2 hi hz hbl
   rw [hp] at c3 ix0 ix1 C2 HC
   go_enter Try.func15, Try.ntmps15
   go_upto_region 1 with fail
   have e0 := HW.out
   simp only [orow, oz] at e0
   rw [e0]
   clear e0
   go_wp2_with fail
   refine wp_loop_rounds 3 ?_
   rw [rounds_succ]
   go_wp2_with (first | (go_at_call 39; with_reducible refine (C1.out).mono ?_; rintro e w1 ⟨rfl, hb1⟩; have HB1 := hid hb1; clear hb1))
   rw [rounds_succ]
   go_wp2_with (first
    | (go_at_call 39; with_reducible refine (C2.out _ HB1.out).mono ?_; rintro e w2 ⟨rfl, hb2⟩; obtain ⟨g', hp', hc, hr⟩ := HC.out w2 (btr HB1.out hb2); simp only [pv] at hc; have hp' := hid hp'; have HRB := hid hr; have HRR := hid (HRU.out w2 (btr HB1.out hb2)); have HB2 := hid (btr HB1.out hb2); clear hr hb2)
    | (refine wpList_load_row (by rfl) 50 (.tmp 27) (by rfl) bl (by rfl) 50 (orow z) (0, 0) _ HRB.out Try.underlying50 rfl (orow_info z) ?_)
    | (refine wpList_store_row (by rfl) 50 (.tmp 4) (.tmp 28) (by rfl) w.heap.size (orow z) (by rfl) (by rfl) 50 (orow oz) HRR.out (orow_info z) (orow_size oz z) (orow_all z) ?_))
   refine bodyPost_ret (res15 _ _ w.heap.size z (.int .i64 2) (.bool true) (by rfl) (by rfl) (by rfl) (setRow_heap _ _ _ _ 50 (0, 0) HRR.out)) rfl ?_
   refine ⟨by first | rfl | simp, ?_⟩
   exact btr HBW.out HB2.out |>.trans ((setRow_kp _ _ _).below (btr HBW.out HB2.out).size (fun b hb e => by omega))
  ·have f2' : fnd id b.l2 = -1 := by omega
   rw [f2'] at C2
   have hfo : fo b id = (oz, 0, false) := by
    unfold fo
    rw [dif_neg f1, dif_neg f2]
   rw [hfo]
   have HRU := hid (fun (U : World) (hU : Below W.heap.size W U) => row_on HR.out hU)
   clear hfo f1 f1' f2 f2' g1 g2
   go_enter Try.func15, Try.ntmps15
   go_upto_region 1 with fail
   have e0 := HW.out
   simp only [orow, oz] at e0
   rw [e0]
   clear e0
   go_wp2_with fail
   refine wp_loop_rounds 3 ?_
   rw [rounds_succ]
   go_wp2_with (first | (go_at_call 39; with_reducible refine (C1.out).mono ?_; rintro e w1 ⟨rfl, hb1⟩; have HB1 := hid hb1; clear hb1))
   rw [rounds_succ]
   go_wp2_with (first | (go_at_call 39; with_reducible refine (C2.out _ HB1.out).mono ?_; rintro e w2 ⟨rfl, hb2⟩; have HRR := hid (HRU.out w2 (btr HB1.out hb2)); have HB2 := hid (btr HB1.out hb2); clear hb2))
   rw [rounds_succ]
   go_wp2_with (first
    | (refine wpList_store_row (by rfl) 50 (.tmp 4) (.tmp 32) (by rfl) w.heap.size (orow oz) (by rfl) (by rfl) 50 (orow oz) HRR.out (orow_info oz) (orow_size oz oz) (orow_all oz) ?_))
   refine bodyPost_ret (res15 _ _ w.heap.size oz (.int .i64 0) (.bool false) (by rfl) (by rfl) (by rfl) (setRow_heap _ _ _ _ 50 (0, 0) HRR.out)) rfl ?_
   refine ⟨by first | rfl | simp, ?_⟩
   exact btr HBW.out HB2.out |>.trans ((setRow_kp _ _ _).below (btr HBW.out HB2.out).size (fun b hb e => by omega))
end
end Go.Proofs.Ytalgndgoedlpoaa
