/-
  RuRq
-/
import Derived.Test.YtalgndgoedlpoaaRuRp
namespace Go.Proofs.Ytalgndgoedlpoaa
open Go.RowKit Go.Deep Go.Shelf
set_option linter.unusedVariables false
set_option linter.unusedSimpArgs false
set_option maxHeartbeats 4000000
set_option maxRecDepth 100000
theorem ofp_own {p : Option Addr} {n c j : Nat} (h : OfP p j) : (Value.slice p n c).ownBlock = some j := by
 unfold OfP at h
 rw [h]
 rfl
/-- the lists of a book are those of another one, or new. -/
def Nwl (k : Nat) (d d2 : Db) : Prop := (∀ j, OfP d2.p1 j → OfP d.p1 j ∨ k ≤ j) ∧ (∀ j, OfP d2.p2 j → OfP d.p2 j ∨ k ≤ j)
theorem Nwl.refl (k : Nat) (d : Db) : Nwl k d d := ⟨fun _ h => .inl h, fun _ h => .inl h⟩
theorem Nwl.trans {k k' : Nat} {a b c : Db} (h : Nwl k a b) (h' : Nwl k' b c) (hk : k ≤ k') : Nwl k a c :=
 ⟨fun j hj => (h'.1 j hj).elim (h.1 j) (fun e => .inr (Nat.le_trans hk e)), fun j hj => (h'.2 j hj).elim (h.2 j) (fun e => .inr (Nat.le_trans hk e))⟩
theorem Nwl.put {k : Nat} {d e : Db} (h : Nwl k e d) {s : Int} {p : Option Addr} {c : Nat} {os : List Or} (hp : ∀ j, OfP p j → k ≤ j) : Nwl k e (d.put s p c os) := by
 unfold Db.put
 split
 ·exact ⟨fun j hj => .inr (hp j hj), h.2⟩
 ·exact ⟨h.1, fun j hj => .inr (hp j hj)⟩
theorem dcopyN_any (cap meet high seq : Int) (x1 x2 : Option Addr) (n1 n2 c1 c2 : Nat) (os1 os2 : List Or) (w : World) (h1 : Rw w (.slice x1 n1 c1) os1) (h2 : Rw w (.slice x2 n2 c2) os2) (hn1 : os1.length ≤ 1048576) (hn2 : os2.length ≤ 1048576) :
  Calls Try.prog 28 #[.agg (dbv cap meet (.slice x1 n1 c1) (.slice x2 n2 c2) high seq)] w fun e w' => ∃ p1 p2 q1 q2, e = .returned (.agg (dbv cap meet (.slice p1 os1.length q1) (.slice p2 os2.length q2) high seq)) ∧ Rw w' (.slice p1 os1.length q1) os1 ∧ Rw w' (.slice p2 os2.length q2) os2 ∧ Below w.heap.size w w' ∧ (∀ j, OfP p1 j → w.heap.size ≤ j) ∧ (∀ j, OfP p2 j → w.heap.size ≤ j) := by
 obtain ⟨i0, hi, hz0, hz1, hz2⟩ := info_parts info50all
 have HI := hid hi
 have HZ0 := hid hz0
 have HZ1 := hid hz1
 have HZ2 := hid hz2
 obtain ⟨m1, hm1⟩ : ∃ m, os1.length = m := ⟨_, rfl⟩
 obtain ⟨m2, hm2⟩ : ∃ m, os2.length = m := ⟨_, rfl⟩
 have HM1' := hid hm1
 have HM2' := hid hm2
 obtain ⟨R, hR⟩ : ∃ R, w.heap.size = R := ⟨_, rfl⟩
 obtain ⟨U0, hU0⟩ : ∃ U0, w.alloc (.cells #[.int .i64 cap, .int .i64 meet, .slice x1 n1 c1, .slice x2 n2 c2, .int .u64 high, .int .u64 seq] 32) = U0 := ⟨_, rfl⟩
 obtain ⟨W1, hW1⟩ : ∃ W1, U0.alloc (.cells #[.int .i64 0, .int .i64 0, .slice none 0 0, .slice none 0 0, .int .u64 0, .int .u64 0] 32) = W1 := ⟨_, rfl⟩
 have hs0 : U0.heap.size = R + 1 := by rw [← hU0, ← hR]; simp
 have hs1 : W1.heap.size = R + 2 := by rw [← hW1]; simp [hs0]
 have hB : W1.heap[R]? = some (.cells #[.int .i64 cap, .int .i64 meet, .slice x1 n1 c1, .slice x2 n2 c2, .int .u64 high, .int .u64 seq] 32 (0, 0)) := by
  rw [← hW1]; exact row_on (by rw [← hU0, ← hR]; exact World.alloc_heap_new _ _) (ball _ _)
 have hZ : W1.heap[R + 1]? = some (.cells #[.int .i64 0, .int .i64 0, .slice none 0 0, .slice none 0 0, .int .u64 0, .int .u64 0] 32 (0, 0)) := by
  rw [← hW1, ← hs0]; exact World.alloc_heap_new _ _
 have HBW := hid (show Below w.heap.size w W1 from by rw [← hW1, ← hU0]; exact btr (ball _ _) (ball _ _))
 have HM1 := hid (made0 50 7 HBW.out)
 have HN1 := hid (show (W1.alloc (.cells #[] 50)).ownsRow 0 50 7 (.slice x1 n1 c1) m1 (ors os1) from by rw [← hm1]; exact own_on (own_on h1 HBW.out) (ball _ _))
 have HB := hid hB
 have HZ := hid hZ
 have HU := hid hU0
 have HW := hid hW1
 have H2 := hid h2
 have HS1 := hid hs1
 have HRR := hid hR
 obtain ⟨b0, b1, b2, b3, b4, b5⟩ := row6 hB
 have fb := row_frz hB 2
 have nR : R ≠ W1.heap.size := by omega
 have hws := HBW.out.size
 have sR : R < W1.heap.size := by omega
 rw [hm1] at hn1 ⊢
 rw [hm2] at hn2 ⊢
 unfold dbv
 clear hi hz0 hz1 hz2 hm1 hm2 hU0 hW1 hs0 hB hZ h1 h2 hs1 hR
 go_enter Try.func28, Try.ntmps28
 go_upto_region 1 with fail
 rw [HU.out, HW.out, HRR.out]
 go_upto_region 2 with (at_builtin; refine wpList_app_rows (by rfl) (.tmp 3) (.tmp 5) 29 (by rfl) w.heap.size 0 50 i0 _ 7 56 Try.underlying29 HI.out HZ0.out HZ1.out HZ2.out rfl (by decide) _ 0 [] (by rfl) (HM1.out) _ m1 (ors os1) (by rfl) (HN1.out) (ors_one _) (by unfold maxLen; omega) (by omega) (by simp; omega) ?_; intro v' w' hown hgrow; obtain ⟨p1, q1, rfl⟩ := own_form hown; have HO1 := hid hown; have HG1 := hid (show Below W1.heap.size W1 w' from (ball _ _).grown hgrow (by simp) (fun j hj => by cases hj; exact Nat.le_refl _)); clear hown hgrow; have hr := row_on HB.out HG1.out; obtain ⟨b0, b1, b2, b3, b4, b5⟩ := row6 hr; have fb := row_frz hr 2; clear hr)
 have hO1 := HO1.out
 rw [Nat.zero_add, List.nil_append] at hO1
 have hlt1 : ∀ g, (Value.slice p1 m1 q1).ownBlock = some g → g ≠ R := fun g hg e => by
  obtain ⟨cc, hc⟩ := own_ty hO1 hg
  exact row_ne hc (row_on HB.out HG1.out) (by decide) e
 obtain ⟨W2, hW2⟩ : ∃ W2, w'.setCell ⟨R, 2, none⟩ (.slice p1 m1 q1) = W2 := ⟨_, rfl⟩
 have hk2 : Kp (fun j => j = R) w' W2 := by rw [← hW2]; exact Kp.set _ _ _ _
 have hB2 : W2.heap[R]? = some (.cells #[.int .i64 cap, .int .i64 meet, .slice p1 m1 q1, .slice x2 n2 c2, .int .u64 high, .int .u64 seq] 32 (0, 0)) := by rw [← hW2, set_row _ (row_on HB.out HG1.out)]; rfl
 have hZ2 : W2.heap[R + 1]? = some (.cells #[.int .i64 0, .int .i64 0, .slice none 0 0, .slice none 0 0, .int .u64 0, .int .u64 0] 32 (0, 0)) := hk2.row (row_on HZ.out HG1.out) (by omega)
 have hw1 := btr HBW.out HG1.out
 have HB2 := hid (show Below w.heap.size w W2 from hw1.trans (hk2.below hw1.size (fun b hb e => by have := HRR.out; omega)))
 have HP1 := hid (show W2.ownsRow w.heap.size 50 7 (.slice p1 m1 q1) m1 (ors os1) from own_same hO1 (fun g hg => hk2.obj g (by obtain ⟨cc, hc⟩ := own_ty hO1 hg; exact row_lt hc) (hlt1 g hg)))
 have HM2 := hid (made0 50 7 HB2.out)
 have HN2 := hid (show (W2.alloc (.cells #[] 50)).ownsRow 0 50 7 (.slice x2 n2 c2) m2 (ors os2) from by rw [← HM2'.out]; exact own_on (own_on H2.out HB2.out) (ball _ _))
 have HR2 := hid hB2
 have HZ2' := hid hZ2
 have sR2 := row_lt hB2
 have hws2 := HB2.out.size
 rw [hW2]
 clear b0 b1 b2 b3 b4 b5 fb hW2 hk2 hO1 hlt1 hw1 nR sR hws HM1 HN1
 obtain ⟨b0, b1, b2, b3, b4, b5⟩ := row6 hB2
 have fb := row_frz hB2 3
 clear hB2 hZ2
 go_upto_region 3 with (at_builtin; refine wpList_app_rows (by rfl) (.tmp 8) (.tmp 10) 29 (by rfl) w.heap.size 0 50 i0 _ 7 56 Try.underlying29 HI.out HZ0.out HZ1.out HZ2.out rfl (by decide) _ 0 [] (by rfl) (HM2.out) _ m2 (ors os2) (by rfl) (HN2.out) (ors_one _) (by unfold maxLen; omega) (by omega) (by simp; omega) ?_; intro v' w'_1 hown hgrow; obtain ⟨p2, q2, rfl⟩ := own_form hown; have HO2 := hid hown; have HG2 := hid (show Below W2.heap.size W2 w'_1 from (ball _ _).grown hgrow (by simp) (fun j hj => by cases hj; exact Nat.le_refl _)); clear hown hgrow; have hr := row_on HR2.out HG2.out; obtain ⟨b0, b1, b2, b3, b4, b5⟩ := row6 hr; have fb := row_frz hr 3; clear hr)
 have hO2 := HO2.out
 rw [Nat.zero_add, List.nil_append] at hO2
 have hlt2 : ∀ g, (Value.slice p2 m2 q2).ownBlock = some g → g ≠ R := fun g hg e => by
  obtain ⟨cc, hc⟩ := own_ty hO2 hg
  exact row_ne hc (row_on HR2.out HG2.out) (by decide) e
 obtain ⟨W3, hW3⟩ : ∃ W3, w'_1.setCell ⟨R, 3, none⟩ (.slice p2 m2 q2) = W3 := ⟨_, rfl⟩
 have hk3 : Kp (fun j => j = R) w'_1 W3 := by rw [← hW3]; exact Kp.set _ _ _ _
 have hB3 : W3.heap[R]? = some (.cells #[.int .i64 cap, .int .i64 meet, .slice p1 m1 q1, .slice p2 m2 q2, .int .u64 high, .int .u64 seq] 32 (0, 0)) := by rw [← hW3, set_row _ (row_on HR2.out HG2.out)]; rfl
 have HZ3 := hid (show W3.heap[R + 1]? = some (.cells #[.int .i64 0, .int .i64 0, .slice none 0 0, .slice none 0 0, .int .u64 0, .int .u64 0] 32 (0, 0)) from hk3.row (row_on HZ2'.out HG2.out) (by omega))
 have hw2 := btr HB2.out HG2.out
 have HB3 := hid (show Below w.heap.size w W3 from hw2.trans (hk3.below hw2.size (fun b hb e => by have := HRR.out; omega)))
 have HP2 := hid (show W3.ownsRow w.heap.size 50 7 (.slice p2 m2 q2) m2 (ors os2) from own_same hO2 (fun g hg => hk3.obj g (by obtain ⟨cc, hc⟩ := own_ty hO2 hg; exact row_lt hc) (hlt2 g hg)))
 have HP3 := hid (show W3.ownsRow w.heap.size 50 7 (.slice p1 m1 q1) m1 (ors os1) from own_same (own_on HP1.out HG2.out) (fun g hg => by
  obtain ⟨cc, hc⟩ := own_ty HP1.out hg
  exact hk3.obj g (Nat.lt_of_lt_of_le (row_lt hc) HG2.out.size) (row_ne hc HR2.out (by decide))))
 rw [hW3]
 clear b0 b1 b2 b3 b4 b5 fb hW3 hk3 hO2 hlt2 hw2 sR2 hws2 HM2 HN2
 obtain ⟨b0, b1, b2, b3, b4, b5⟩ := row6 hB3
 clear hB3
 have AI := hid (show (Try.prog.info? 32).map (·.size) = some (#[.int .i64 cap, .int .i64 meet, .slice p1 m1 q1, .slice p2 m2 q2, .int .u64 high, .int .u64 seq] : Array Value).size from info32)
 have AS := hid (show (#[.int .i64 0, .int .i64 0, .slice none 0 0, .slice none 0 0, .int .u64 0, .int .u64 0] : Array Value).size = (#[.int .i64 cap, .int .i64 meet, .slice p1 m1 q1, .slice p2 m2 q2, .int .u64 high, .int .u64 seq] : Array Value).size from rfl)
 have AA := hid (show (#[.int .i64 cap, .int .i64 meet, .slice p1 m1 q1, .slice p2 m2 q2, .int .u64 high, .int .u64 seq] : Array Value).all (·.oneCell') = true from by simp [Value.oneCell'])
 go_wp2_with (refine wpList_store_row (by rfl) 32 (.tmp 2) (.tmp 13) (by rfl) (R + 1) #[.int .i64 cap, .int .i64 meet, .slice p1 m1 q1, .slice p2 m2 q2, .int .u64 high, .int .u64 seq] (by rfl) (by rfl) 32 _ HZ3.out AI.out AS.out AA.out ?_)
 refine bodyPost_ret (results_cell_row (fn := Try.f28) Try.results28 _ _ (R + 1) 32 #[.int .i64 cap, .int .i64 meet, .slice p1 m1 q1, .slice p2 m2 q2, .int .u64 high, .int .u64 seq] (0, 0) _ (by rfl) (setRow_heap _ _ _ _ 32 (0, 0) HZ3.out) Try.underlying32 rfl info32) rfl ⟨p1, p2, q1, q2, rfl, ?_, ?_, ?_, fun j hj => (HP3.out.lt j (ofp_own hj)).1, fun j hj => (HP2.out.lt j (ofp_own hj)).1⟩
 ·unfold Rw; rw [HM1'.out]; exact own_base (own_same HP3.out (fun g hg => (setRow_kp W3 (R + 1) _).obj g (by obtain ⟨cc, hc⟩ := own_ty HP3.out hg; exact row_lt hc) (by obtain ⟨cc, hc⟩ := own_ty HP3.out hg; exact row_ne hc HZ3.out (by decide)))) (Nat.zero_le _)
 ·unfold Rw; rw [HM2'.out]; exact own_base (own_same HP2.out (fun g hg => (setRow_kp W3 (R + 1) _).obj g (by obtain ⟨cc, hc⟩ := own_ty HP2.out hg; exact row_lt hc) (by obtain ⟨cc, hc⟩ := own_ty HP2.out hg; exact row_ne hc HZ3.out (by decide)))) (Nat.zero_le _)
 ·exact setRow_below HB3.out (by have := HRR.out; omega)
theorem denqN_any (s : Int) (p : Option Addr) (c : Nat) (os : List Or) (o : Or) (w : World) (h : Rw w (.slice p os.length c) os) (hn : os.length ≤ 1048576) :
  Calls Try.prog 57 #[.int .i64 s, .slice p os.length c, .agg (orow o)] w fun e w' => ∃ q d, e = .returned (.slice q (os.length + 1) d) ∧ w'.ownsRow w.heap.size 50 7 (.slice q (os.length + 1) d) (os.length + 1) (ors (inO (bhO s o.pr os) o os)) ∧ Below w.heap.size w w' := by
 obtain ⟨i0, hi, hz0, hz1, hz2⟩ := info_parts info50all
 obtain ⟨n, hnn⟩ : ∃ n, os.length = n := ⟨_, rfl⟩
 obtain ⟨k, hk⟩ : ∃ k, bhO s o.pr os = k := ⟨_, rfl⟩
 have hkn : k ≤ n := by rw [← hk, ← hnn]; exact bhO_le _ _ _
 have HK := hid hk
 have HN := hid hnn
 have HO := hid (rw_osz h)
 have HI := hid hi
 have HZ0 := hid hz0
 have HZ1 := hid hz1
 have HZ2 := hid hz2
 rw [hnn, hk]
 rw [hnn] at hn
 clear hk hnn h hi hz0 hz1 hz2
 obtain ⟨R, hR⟩ : ∃ R, w.heap.size = R := ⟨_, rfl⟩
 have HR := hid hR
 obtain ⟨W, hW⟩ : ∃ W, w.alloc (.cells (orow o) 50) = W := ⟨_, rfl⟩
 have HW := hid hW
 have HX := hid (show W.heap[R]? = some (.cells (orow o) 50 (0, 0)) from by rw [← hW, ← hR]; exact World.alloc_heap_new _ _)
 have HB := hid (show Below w.heap.size w W from by rw [← hW]; exact ball _ _)
 clear hR hW
 unfold orow
 go_enter Try.func57, Try.ntmps57
 go_upto_region 1 with fail
 have e1 := HR.out
 rw [e1]
 have e0 := HW.out
 unfold orow at e0
 rw [e0]
 clear e0 e1
 go_wp2_with fail
 have HS0 := hid (show (W.alloc (.cells #[] 50)).ownsRow W.heap.size 50 7 (.slice (some ⟨W.heap.size, 0, none⟩) 0 0) 0 (ors (stO k o os 0)) from by
  have e : stO k o os 0 = [] := by unfold stO; simp
  rw [e]
  exact World.ownsRow_made W #[] 0 (Nat.le_refl _) (by unfold maxLen; omega) rfl)
 have HFX := hid (fun (U : World) (hU : Below W.heap.size W U) => (show U.cell? ⟨R, 0, none⟩ = some (.int .u64 o.id) ∧ U.cell? ⟨R, 1, none⟩ = some (.int .u32 o.mb) ∧ U.cell? ⟨R, 2, none⟩ = some (.int .i64 o.ty) ∧ U.cell? ⟨R, 3, none⟩ = some (.int .i64 o.pr) ∧ U.cell? ⟨R, 4, none⟩ = some (.int .u64 o.vi) ∧ U.cell? ⟨R, 5, none⟩ = some (.int .u64 o.hi) ∧ U.cell? ⟨R, 6, none⟩ = some (.int .u64 o.pk) from by
  have hr := row_on HX.out hU
  have a0 := row_cell hr 0
  have a1 := row_cell hr 1
  have a2 := row_cell hr 2
  have a3 := row_cell hr 3
  have a4 := row_cell hr 4
  have a5 := row_cell hr 5
  have a6 := row_cell hr 6
  simp only [orow, List.getElem?_toArray, List.getElem?_cons_succ, List.getElem?_cons_zero] at a0 a1 a2 a3 a4 a5 a6
  exact ⟨a0, a1, a2, a3, a4, a5, a6⟩))
 have HSRC := hid (fun (U : World) (z : Or) (cs : Array Value) (hcs : cs = orow z) => (show ∀ j u, (orow z).toList[j]? = some u → (U.alloc (.cells cs 50)).cell? ((⟨U.heap.size, 0, none⟩ : Addr).add j) = some u from fun j u hj => by
  rw [Addr.add_lit, Nat.zero_add, row_cell (World.alloc_heap_new U (.cells cs 50)), hcs]
  simpa using hj))
 go_loopw [7, 8, 9] (fun rv dv iv wr => ∃ (i m : Nat) (q : Option Addr) (d : Nat), i ≤ n ∧ iv = .int .i64 i ∧ dv = .bool (decide (k < i)) ∧ rv = .slice q m d ∧ m = (if i ≤ k then i else i + 1) ∧ Hid (wr.ownsRow W.heap.size 50 7 (.slice q m d) m (ors (stO k o os i))) ∧ Hid (Below W.heap.size W wr)) (fun _ _ iv _ => n - (intOf iv).toNat)
 case atStart => exact ⟨0, 0, _, _, Nat.zero_le _, rfl, by simp, rfl, by simp, HS0, hid (ball _ _)⟩
 case round =>
  obtain ⟨i, m, q, d, hin, rfl, rfl, rfl, hm, HOW, HBW⟩ := hrel
  by_cases hlt : i < n
  ·have hil : i < os.length := by rw [HN.out]; exact hlt
   obtain ⟨z, hz⟩ : ∃ z, os[i] = z := ⟨_, rfl⟩
   have HZ := hid hz
   have HCE := hid (fun (U : World) (hU : Below W.heap.size W U) => osz_cells HO.out (btr HB.out hU) hil)
   obtain ⟨pb, po, hp, hrest⟩ := HCE.out wr HBW.out
   clear hrest
   subst hp
   have HCX := hid (fun (U : World) (hU : Below W.heap.size W U) => (show U.cell? ⟨pb, po + i * 7, none⟩ = some (.int .u64 z.id) ∧ U.cell? ⟨pb, po + i * 7 + 1, none⟩ = some (.int .u32 z.mb) ∧ U.cell? ⟨pb, po + i * 7 + 2, none⟩ = some (.int .i64 z.ty) ∧ U.cell? ⟨pb, po + i * 7 + 3, none⟩ = some (.int .i64 z.pr) ∧ U.cell? ⟨pb, po + i * 7 + 4, none⟩ = some (.int .u64 z.vi) ∧ U.cell? ⟨pb, po + i * 7 + 5, none⟩ = some (.int .u64 z.hi) ∧ U.cell? ⟨pb, po + i * 7 + 6, none⟩ = some (.int .u64 z.pk) from by
    obtain ⟨b1, o1, hq, r⟩ := HCE.out U hU
    injection hq with hq
    injection hq with e1 e2 _
    subst e1
    subst e2
    rw [hz] at r
    exact r))
   clear HCE hz
   have i0' : (0 : Int) ≤ (i : Int) := by omega
   have i1 : (i : Int) < (n : Int) := by omega
   obtain ⟨a0, a1, a2, a3, a4, a5, a6⟩ := HCX.out wr HBW.out
   obtain ⟨f0, f1, f2, f3, f4, f5, f6⟩ := HFX.out wr HBW.out
   have CBT := hid (fun U => dbetter_any s o.pr z.pr U)
   rcases Nat.lt_trichotomy i k with hik | hik | hik
   ·have hP : btt s o.pr z.pr = false := by
     have h1 := bhO_lt (s := s) (p := o.pr) (os := os) (i := i) (by rw [HK.out]; exact hik)
     rw [HZ.out] at h1
     exact h1
    rw [hP] at CBT
    have hdb : decide (k < i) = false := by simp; omega
    have HMM := hid (show m = i from by rw [hm, if_pos (by omega)])
    have hmb : m ≤ 1048577 := by have := HMM.out; omega
    have HIK := hid hik
    clear hm hP hik
    rw [hdb]
    clear hdb
    go_upto_region 6 with fail
    go_quiet ((go_at_call 69; exact Calls.quiet_of_same (CBT.out _)))
    obtain ⟨U, hU⟩ : ∃ U, wr.drewN nq = U := ⟨_, rfl⟩
    have HBU := hid (show Below wr.heap.size wr U from by rw [← hU]; exact bdrew _ _)
    rw [hU]
    clear hU a0 a1 a2 a3 a4 a5 a6 f0 f1 f2 f3 f4 f5 f6
    have HOU := hid (own_on HOW.out HBU.out)
    obtain ⟨a0, a1, a2, a3, a4, a5, a6⟩ := HCX.out U (btr HBW.out HBU.out)
    obtain ⟨f0, f1, f2, f3, f4, f5, f6⟩ := HFX.out U (btr HBW.out HBU.out)
    have hszU : W.heap.size ≤ U.heap.size := (btr HBW.out HBU.out).size
    go_wp2_with (at_builtin; refine wpList_append_own _ (by rfl) (.tmp 34) (.tmp 39) 29 (by rfl) W.heap.size 50 i0 _ 7 56 Try.underlying29 HI.out HZ0.out HZ1.out HZ2.out rfl (by decide) _ m _ (by rfl) (HOU.out.alloc _) ⟨U.heap.size, 0, none⟩ 1 1 (orow z).toList (by rfl) (by simp [orow]) (HSRC.out U z _ rfl) (orow_one z) (by unfold maxLen; omega) (by omega) (by simp; omega) ?_; intro v1 w1 hown hgrow _; obtain ⟨p1, c1, hrv⟩ := own_form hown; subst hrv; have O1 := hid hown; have G1 := hid hgrow; clear hown hgrow)
    go_roundw
    case rel =>
     refine ⟨i + 1, _, p1, c1, by omega, by go_num, by have := HIK.out; simp; omega, rfl, ?_, hid ?_, hid ?_⟩
     ·have := HMM.out
      have := HIK.out
      split <;> omega
     ·have := O1.out
      rw [stO_lt hil HIK.out, ors_snoc, HZ.out]
      exact this
     ·exact (btr (btr HBW.out HBU.out) (ball U _)).grown G1.out (Nat.le_trans (btr (btr HBW.out HBU.out) (ball U _)).size (Nat.le_refl _)) (fun j hj => (HOU.out.lt j hj).1)
    case measure => simp [intOf]; omega
   ·have hP : btt s o.pr z.pr = true := by
     have h0 : bhO s o.pr os < os.length := by rw [HK.out, ← hik]; exact hil
     have h1 := bhO_at (s := s) (p := o.pr) h0
     have e : os[bhO s o.pr os]'h0 = z := by
      have : bhO s o.pr os = i := by rw [HK.out, hik]
      simp only [this]
      exact HZ.out
     rw [e] at h1
     exact h1
    rw [hP] at CBT
    have hdb : decide (k < i) = false := by simp; omega
    have HMM := hid (show m = i from by rw [hm, if_pos (by omega)])
    have hmb : m ≤ 1048577 := by have := HMM.out; omega
    have HIK := hid hik
    clear hm hP hik
    rw [hdb]
    clear hdb
    go_upto_region 6 with fail
    go_quiet ((go_at_call 69; exact Calls.quiet_of_same (CBT.out _)))
    obtain ⟨U, hU⟩ : ∃ U, wr.drewN nq = U := ⟨_, rfl⟩
    have HBU := hid (show Below wr.heap.size wr U from by rw [← hU]; exact bdrew _ _)
    rw [hU]
    clear hU a0 a1 a2 a3 a4 a5 a6 f0 f1 f2 f3 f4 f5 f6
    have HOU := hid (own_on HOW.out HBU.out)
    obtain ⟨a0, a1, a2, a3, a4, a5, a6⟩ := HCX.out U (btr HBW.out HBU.out)
    obtain ⟨f0, f1, f2, f3, f4, f5, f6⟩ := HFX.out U (btr HBW.out HBU.out)
    have hszU : W.heap.size ≤ U.heap.size := (btr HBW.out HBU.out).size
    go_upto_region 8 with (at_builtin; refine wpList_append_own _ (by rfl) (.tmp 30) (.tmp 32) 29 (by rfl) W.heap.size 50 i0 _ 7 56 Try.underlying29 HI.out HZ0.out HZ1.out HZ2.out rfl (by decide) _ m _ (by rfl) (HOU.out.alloc _) ⟨U.heap.size, 0, none⟩ 1 1 (orow o).toList (by rfl) (by simp [orow]) (HSRC.out U o _ rfl) (orow_one o) (by unfold maxLen; omega) (by omega) (by simp; omega) ?_; intro v1 w1 hown hgrow _; obtain ⟨p1, c1, hrv⟩ := own_form hown; subst hrv; have O1 := hid hown; have G1 := hid hgrow; clear hown hgrow)
    have HB1 := hid ((btr (btr HBW.out HBU.out) (ball U _)).grown G1.out (Nat.le_trans (btr (btr HBW.out HBU.out) (ball U _)).size (Nat.le_refl _)) (fun j hj => (HOU.out.lt j hj).1))
    clear a0 a1 a2 a3 a4 a5 a6 f0 f1 f2 f3 f4 f5 f6
    obtain ⟨a0, a1, a2, a3, a4, a5, a6⟩ := HCX.out w1 HB1.out
    have hsz1 : W.heap.size ≤ w1.heap.size := HB1.out.size
    go_wp2_with (at_builtin; refine wpList_append_own _ (by rfl) (.tmp 34) (.tmp 39) 29 (by rfl) W.heap.size 50 i0 _ 7 56 Try.underlying29 HI.out HZ0.out HZ1.out HZ2.out rfl (by decide) _ (m + 1) _ (by rfl) (O1.out.alloc _) ⟨w1.heap.size, 0, none⟩ 1 1 (orow z).toList (by rfl) (by simp [orow]) (HSRC.out w1 z _ rfl) (orow_one z) (by unfold maxLen; omega) (by omega) (by simp; omega) ?_; intro v1 w2 hown hgrow _; obtain ⟨p2, c2, hrv⟩ := own_form hown; subst hrv; have O2 := hid hown; have G2 := hid hgrow; clear hown hgrow)
    go_roundw
    case rel =>
     refine ⟨i + 1, _, p2, c2, by omega, by go_num, by have := HIK.out; simp; omega, rfl, ?_, hid ?_, hid ?_⟩
     ·have := HMM.out
      have := HIK.out
      split <;> omega
     ·have := O2.out
      have e := stO_eq (o := o) hil
      have hik := HIK.out
      rw [← hik, e, ors_snoc, ors_snoc, HZ.out]
      rw [← hik] at this
      exact this
     ·exact (btr HB1.out (ball w1 _)).grown G2.out (Nat.le_trans (btr HB1.out (ball w1 _)).size (Nat.le_refl _)) (fun j hj => (O1.out.lt j hj).1)
    case measure => simp [intOf]; omega
   ·have hdb : decide (k < i) = true := by simp; omega
    have HMM := hid (show m = i + 1 from by rw [hm, if_neg (by omega)])
    have hmb : m ≤ 1048577 := by have := HMM.out; omega
    have HIK := hid hik
    clear hm hik
    rw [hdb]
    clear hdb
    go_upto_region 6 with fail
    go_quiet ((go_at_call 69; exact Calls.quiet_of_same (CBT.out _)))
    obtain ⟨U, hU⟩ : ∃ U, wr.drewN nq = U := ⟨_, rfl⟩
    have HBU := hid (show Below wr.heap.size wr U from by rw [← hU]; exact bdrew _ _)
    rw [hU]
    clear hU a0 a1 a2 a3 a4 a5 a6 f0 f1 f2 f3 f4 f5 f6
    have HOU := hid (own_on HOW.out HBU.out)
    obtain ⟨a0, a1, a2, a3, a4, a5, a6⟩ := HCX.out U (btr HBW.out HBU.out)
    obtain ⟨f0, f1, f2, f3, f4, f5, f6⟩ := HFX.out U (btr HBW.out HBU.out)
    have hszU : W.heap.size ≤ U.heap.size := (btr HBW.out HBU.out).size
    go_wp2_with (at_builtin; refine wpList_append_own _ (by rfl) (.tmp 34) (.tmp 39) 29 (by rfl) W.heap.size 50 i0 _ 7 56 Try.underlying29 HI.out HZ0.out HZ1.out HZ2.out rfl (by decide) _ m _ (by rfl) (HOU.out.alloc _) ⟨U.heap.size, 0, none⟩ 1 1 (orow z).toList (by rfl) (by simp [orow]) (HSRC.out U z _ rfl) (orow_one z) (by unfold maxLen; omega) (by omega) (by simp; omega) ?_; intro v1 w1 hown hgrow _; obtain ⟨p1, c1, hrv⟩ := own_form hown; subst hrv; have O1 := hid hown; have G1 := hid hgrow; clear hown hgrow)
    go_roundw
    case rel =>
     refine ⟨i + 1, _, p1, c1, by omega, by go_num, by have := HIK.out; simp; omega, rfl, ?_, hid ?_, hid ?_⟩
     ·have := HMM.out
      have := HIK.out
      split <;> omega
     ·have := O1.out
      rw [stO_gt hil HIK.out, ors_snoc, HZ.out]
      exact this
     ·exact (btr (btr HBW.out HBU.out) (ball U _)).grown G1.out (Nat.le_trans (btr (btr HBW.out HBU.out) (ball U _)).size (Nat.le_refl _)) (fun j hj => (HOU.out.lt j hj).1)
    case measure => simp [intOf]; omega
  ·obtain rfl : i = n := by omega
   obtain ⟨f0, f1, f2, f3, f4, f5, f6⟩ := HFX.out wr HBW.out
   by_cases hkn' : k < i
   ·have HMM := hid (show m = i + 1 from by rw [hm, if_neg (by omega)])
    have hdb : decide (k < i) = true := by simpa using hkn'
    clear hm
    rw [hdb]
    go_wp2
    go_ret
    have e := HMM.out
    subst e
    refine ⟨q, d, rfl, own_base (base := W.heap.size) ?_ HB.out.size, btr HB.out HBW.out⟩
    have := HOW.out
    rw [← HN.out, stO_end (by rw [HN.out]; exact hkn')] at this
    rw [← HN.out]
    exact this
   ·have HMM := hid (show m = i from by rw [hm, if_pos (by omega)])
    have hmb : m ≤ 1048577 := by have := HMM.out; omega
    have hdb : decide (k < i) = false := by simpa using hkn'
    have hszU : W.heap.size ≤ wr.heap.size := HBW.out.size
    clear hm
    rw [hdb]
    go_wp2_with (at_builtin; refine wpList_append_own _ (by rfl) (.tmp 43) (.tmp 45) 29 (by rfl) W.heap.size 50 i0 _ 7 56 Try.underlying29 HI.out HZ0.out HZ1.out HZ2.out rfl (by decide) _ m _ (by rfl) (HOW.out.alloc _) ⟨wr.heap.size, 0, none⟩ 1 1 (orow o).toList (by rfl) (by simp [orow]) (HSRC.out wr o _ rfl) (orow_one o) (by unfold maxLen; omega) (by omega) (by simp; omega) ?_; intro v1 w1 hown hgrow _; obtain ⟨p1, c1, hrv⟩ := own_form hown; subst hrv; have O1 := hid hown; have G1 := hid hgrow; clear hown hgrow)
    go_ret
    have e := HMM.out
    subst e
    refine ⟨p1, c1, rfl, own_base (base := W.heap.size) ?_ HB.out.size, btr HB.out ((btr HBW.out (ball wr _)).grown G1.out (Nat.le_trans HBW.out.size (by simp)) (fun j hj => (HOW.out.lt j hj).1))⟩
    have := O1.out
    have hk' : k = os.length := by rw [HN.out]; omega
    have e2 : stO k o os m ++ [o] = inO k o os := by
     have hm2 : m = os.length := by rw [HN.out]
     rw [hk', hm2]
     exact stO_end'
    rw [← ors_snoc, e2] at this
    exact this
/-- a list with one more order, and where it lies. -/
theorem wenqN (s : Int) (p : Option Addr) (n c : Nat) (os : List Or) (o : Or) (hn : os.length = n) (hb : n ≤ 1048576) (U : World) (h : Rw U (.slice p n c) os) :
  Calls Try.prog 57 #[.int .i64 s, .slice p n c, .agg #[.int .u64 o.id, .int .u32 o.mb, .int .i64 o.ty, .int .i64 o.pr, .int .u64 o.vi, .int .u64 o.hi, .int .u64 o.pk]] U fun e w' => ∃ q c2, e = .returned (.slice q (n + 1) c2) ∧ Hid (Rw w' (.slice q (n + 1) c2) (inO (bhO s o.pr os) o os)) ∧ Hid (Below U.heap.size U w') ∧ Hid (∀ j, OfP q j → U.heap.size ≤ j) := by
 subst hn
 refine (denqN_any s p c os o U h hb).mono ?_
 rintro e w' ⟨q, c2, rfl, h1, h2⟩
 have hl : (inO (bhO s o.pr os) o os).length = os.length + 1 := by
  have := bhO_le s o.pr os
  unfold inO
  simp
  omega
 exact ⟨q, c2, rfl, hid (by unfold Rw; rw [hl]; exact own_base h1 (Nat.zero_le _)), hid h2, hid (fun j hj => (h1.lt j (ofp_own hj)).1)⟩
end Go.Proofs.Ytalgndgoedlpoaa
