/-
  A step: Uncross.
-/
import Derived.Test.YtnmkfdndfhefiaaGreatPdA
namespace Go.Proofs.YtnmkfdndfhefiaaGreat
open Go.RowKit Go.Deep Go.Shelf
set_option linter.unusedVariables false
set_option linter.unusedSimpArgs false
set_option maxHeartbeats 16000000
set_option maxRecDepth 100000
attribute [local go_sem ↓] Go.wp_at_zero Go.wp_at_succ
theorem step6 {w0 w : World} {O : Nat → Prop} {X B : Nat} {r m : Int} {L : List It} {p1 : Option Addr} {c1 : Nat} {p2 : Option Addr} {c2 : Nat} {pL : Option Addr} {cL : Nat} (h : Pp w0 w O X B r m L p1 c1 p2 c2 pL cL) (ot : Bool) (x : It) (id n : Int) :
    Calls Tryz.prog 6 #[.pointer (some ⟨X, 0, none⟩), .agg #[.int .i64 6, .bool ot, .int .u64 x.id, .int .u32 x.mb, .int .i64 x.sd, .int .i64 x.ty, .int .i64 x.pr, .int .u64 x.qt, .int .u64 id, .int .i64 n]] w fun e w' => e = .returned (.bool true) ∧ Nx w0 w w' O X := by
  obtain ⟨R, hR⟩ : ∃ R, w.heap.size = R := ⟨_, rfl⟩
  obtain ⟨W, hW⟩ : ∃ W, w.alloc (.cells #[.int .i64 6, .bool ot, .int .u64 x.id, .int .u32 x.mb, .int .i64 x.sd, .int .i64 x.ty, .int .i64 x.pr, .int .u64 x.qt, .int .u64 id, .int .i64 n] 37) = W := ⟨_, rfl⟩
  have HBW := hid (show Below w.heap.size w W from by rw [← hW]; exact ball _ _)
  have HO := hid (show W.heap[R]? = some (.cells #[.int .i64 6, .bool ot, .int .u64 x.id, .int .u32 x.mb, .int .i64 x.sd, .int .i64 x.ty, .int .i64 x.pr, .int .u64 x.qt, .int .u64 id, .int .i64 n] 37 (0, 0)) from by rw [← hW, ← hR]; exact World.alloc_heap_new _ _)
  have HP0 := hid h
  have HP := hid (h.on HBW.out)
  obtain ⟨nL, hnL⟩ : ∃ k, L.length = k := ⟨_, rfl⟩
  have HNL := hid hnL
  have HXR := hid (show W.heap[X]? = some (.cells #[.pointer (some ⟨B, 0, none⟩), .int .i64 r, .int .i64 m, .slice pL nL cL] 31 (0, 0)) from by have := HP.out.row; rw [hnL] at this; exact this)
  have HW := hid hW
  have HRR := hid hR
  obtain ⟨z, hz⟩ : ∃ a, uqt r L = a := ⟨_, rfl⟩
  obtain ⟨b, hb⟩ : ∃ a, (quo r (iso 1 L) (iso 2 L)).isSome = a := ⟨_, rfl⟩
  obtain ⟨F, hF⟩ : ∃ a, ufl r L = a := ⟨_, rfl⟩
  obtain ⟨nf, hnf⟩ : ∃ a, F.length = a := ⟨_, rfl⟩
  obtain ⟨l1, l2, hll⟩ : ∃ a b, ull r L = (a, b) := ⟨_, _, rfl⟩
  have hfn : nf ≤ 8192 := by rw [← hnf, ← hF]; exact ufl_len h.lk
  have CA := hid (fun (U : World) (hU : Cl U B r m p1 c1 (iso 1 L) p2 c2 (iso 2 L)) => (show Calls Tryz.prog 19 #[.pointer (some ⟨B, 0, none⟩)] U fun e w' => ∃ pf cf, e = .returned (.tuple #[.slice pf nf cf, .agg #[.int .i64 z.pr, .int .u64 z.vo, .int .u64 z.su, .int .i64 z.sd, .int .i64 z.ru], .bool b]) ∧ Hid (w'.ownsRow U.heap.size 67 4 (.slice pf nf cf) nf (frs F)) ∧ Hid (Cl w' B r m p1 c1 l1 p2 c2 l2) ∧ Hid (Kp (fun g => g = B ∨ OfP p1 g ∨ OfP p2 g) U w') from by
    have := uncross_any B r m p1 c1 L p2 c2 U hU
    rw [hb, hF, hnf, hll, hz] at this
    exact this))
  have CB := hid (fun (U : World) (hU : Li U pL cL L) => (show Calls Tryz.prog 20 #[.agg #[.int .i64 r, .int .i64 m, .slice pL nL cL]] U fun e w' => ∃ p' c' L' n2 pf cf, e = .returned (.tuple #[.agg #[.int .i64 r, .int .i64 m, .slice p' n2 c'], .slice pf nf cf, .agg #[.int .i64 z.pr, .int .u64 z.vo, .int .u64 z.su, .int .i64 z.sd, .int .i64 z.ru], .bool b]) ∧ Hid ((L' : List It).length = n2) ∧ Hid (Li w' p' c' L') ∧ Hid (Lk L') ∧ Hid (iso 1 L' = l1 ∧ iso 2 L' = l2) ∧ Hid (Fz w' pf cf F) ∧ Hid (Below U.heap.size U w') ∧ Hid (∀ g, OfP p' g → OfP pL g ∨ U.heap.size ≤ g) from by
    have := runcross_any r m pL cL L U hU h.lk h.isP
    rw [hb, hF, hnf, hll, hz, hnL] at this
    exact this.mono (fun e w' hh => by obtain ⟨p', c', L', pf, cf, h1, h2, h3, h4, h5, h6, h7⟩ := hh; exact ⟨p', c', L', L'.length, pf, cf, h1, hid rfl, hid h2, hid h3, hid (by injection h4 with h4 h5; exact ⟨h4, h5⟩), hid h5, hid h6, hid h7⟩)))
  have CS := hid (fun (U : World) (p q : Option Addr) (c d : Nat) (h1 : Fz U p c F) (h2 : Fz U q d F) => (show Calls Tryz.prog 21 #[.slice p nf c, .slice q nf d] U fun e w' => e = .returned (.bool true) ∧ Hid (Below U.heap.size U w') from by
    have := fills_same p q c d F U h1 h2 (by rw [hnf]; exact hfn)
    rw [hnf] at this
    exact this.mono (fun e w' hh => ⟨hh.1, hid hh.2⟩)))
  have q : ∀ U, (Op.equalIn 10000 57 (.agg #[.int .i64 z.pr, .int .u64 z.vo, .int .u64 z.su, .int .i64 z.sd, .int .i64 z.ru]) (.agg #[.int .i64 z.pr, .int .u64 z.vo, .int .u64 z.su, .int .i64 z.sd, .int .i64 z.ru])).run Tryz.prog U = .ok true U := fun U => by rw [eqQ]; simp
  have HNF := hid hnf
  clear hz hb hF hnf hll
  clear h hW hR hnL
  go_enter Tryz.func6, Tryz.ntmps6
  go_upto_region 1 with fail
  rw [HW.out, HRR.out]
  have o0 : W.cell? ⟨R, 0, none⟩ = some (.int .i64 6) := row_cell HO.out 0
  obtain ⟨k0, k1, k2, k3⟩ := row4 HXR.out
  go_upto_region 25 with (go_at_call 19; with_reducible refine (CA.out _ HP.out.cl).mono ?_; rintro e v1 ⟨pf, cf, rfl, HF1, HC1, K1⟩)
  have HNB := hid (show ∀ (g : Nat) (t : TypeId) (cs : Array Value), (t = 31 ∨ t = 37) → W.heap[g]? = some (.cells cs t (0, 0)) → ¬ (g = B ∨ OfP p1 g ∨ OfP p2 g) from fun g t cs ht hg => by
    rintro (e | e | e)
    · subst e; exact row_ne hg HP.out.cl.row (by rcases ht with rfl | rfl <;> decide) rfl
    · obtain ⟨cu, hc⟩ := HP.out.cl.l1.ty e; exact row_ne hg hc (by rcases ht with rfl | rfl <;> decide) rfl
    · obtain ⟨cu, hc⟩ := HP.out.cl.l2.ty e; exact row_ne hg hc (by rcases ht with rfl | rfl <;> decide) rfl)
  have HX1 := hid (K1.out.row HXR.out (HNB.out X _ _ (.inl rfl) HXR.out))
  have HL1 := hid (HP.out.li.kept K1.out (fun g hg e => by
    rcases e with e | e
    · obtain ⟨cu, hc⟩ := HP.out.li.ty hg; subst e; exact row_ne hc HP.out.cl.row (by decide) rfl
    · exact HP.out.ap g e hg))
  obtain ⟨Y, hY⟩ : ∃ Y, v1.alloc (.cells #[.int .i64 z.pr, .int .u64 z.vo, .int .u64 z.su, .int .i64 z.sd, .int .i64 z.ru] 57) = Y := ⟨_, rfl⟩
  obtain ⟨g, hg⟩ : ∃ g, v1.heap.size = g := ⟨_, rfl⟩
  have HG := hid (show Y.heap[g]? = some (.cells #[.int .i64 z.pr, .int .u64 z.vo, .int .u64 z.su, .int .i64 z.sd, .int .i64 z.ru] 57 (0, 0)) from by rw [← hY, ← hg]; exact World.alloc_heap_new _ _)
  have BY := hid (show Below v1.heap.size v1 Y from by rw [← hY]; exact ball _ _)
  rw [hY, hg]
  clear hY hg k0 k1 k2 k3
  obtain ⟨k0, k1, k2, k3⟩ := row4 (row_on HX1.out BY.out)
  go_upto_region 26 with (go_at_call 20; with_reducible refine (CB.out _ (HL1.out.on BY.out)).mono ?_; rintro e v2 ⟨p', c', L', n2, pg, cg, rfl, HN2, HLI, HLK, HIS, HF2, V2, FRE⟩)
  obtain ⟨Z1, hZ1⟩ : ∃ Y, v2.alloc (.cells #[.int .i64 r, .int .i64 m, .slice p' n2 c'] 29) = Y := ⟨_, rfl⟩
  obtain ⟨Z, hZ⟩ : ∃ Y, Z1.alloc (.cells #[.int .i64 z.pr, .int .u64 z.vo, .int .u64 z.su, .int .i64 z.sd, .int .i64 z.ru] 57) = Y := ⟨_, rfl⟩
  obtain ⟨c, hc⟩ : ∃ g, v2.heap.size = g := ⟨_, rfl⟩
  have s1 : Z1.heap.size = c + 1 := by rw [← hZ1, ← hc]; simp
  have BZ1 : Below v2.heap.size v2 Z1 := by rw [← hZ1]; exact ball _ _
  have BZ2 : Below Z1.heap.size Z1 Z := by rw [← hZ]; exact ball _ _
  have HC := hid (show Z.heap[c]? = some (.cells #[.int .i64 r, .int .i64 m, .slice p' n2 c'] 29 (0, 0)) from row_on (by rw [← hZ1, ← hc]; exact World.alloc_heap_new _ _) BZ2)
  have HCq := hid (show Z.heap[c + 1]? = some (.cells #[.int .i64 z.pr, .int .u64 z.vo, .int .u64 z.su, .int .i64 z.sd, .int .i64 z.ru] 57 (0, 0)) from by rw [← hZ, ← s1]; exact World.alloc_heap_new _ _)
  have BZ := hid (btr BZ1 BZ2)
  have B1Z := hid (show Below v1.heap.size v1 Z from btr BY.out (btr V2.out BZ.out))
  have HGZ := hid (row_on (row_on HG.out V2.out) BZ.out)
  have HXZ := hid (row_on HX1.out B1Z.out)
  rw [hZ1, hZ, hc]
  clear hZ1 hZ hc s1 BZ1 BZ2 k0 k1 k2 k3
  obtain ⟨k0, k1, k2, k3⟩ := row4 HXZ.out
  have f1 := row_frz HXZ.out 1
  have f2 := row_frz HXZ.out 2
  have f3 := row_frz HXZ.out 3
  obtain ⟨c0, c1', c2'⟩ := row3 HC.out
  go_upto_region 27 with fail
  obtain ⟨q1, q2⟩ := x_set HXZ.out (.int .i64 r) (.int .i64 m) (.slice p' n2 c')
  obtain ⟨Q, hQ⟩ : ∃ Q, ((Z.setCell ⟨X, 1, none⟩ (.int .i64 r)).setCell ⟨X, 2, none⟩ (.int .i64 m)).setCell ⟨X, 3, none⟩ (.slice p' n2 c') = Q := ⟨_, rfl⟩
  rw [hQ] at q1 q2 ⊢
  have HQ1 := hid q1
  have HQ2 := hid q2
  have HGQ := hid (q2.row HGZ.out (row_ne HGZ.out HXZ.out (by decide)))
  have HCQ := hid (q2.row HCq.out (row_ne HCq.out HXZ.out (by decide)))
  have HA := hid (show ∀ (base : Nat) (p : Option Addr) (c : Nat) (xs : List Value), Z.ownsRow base 67 4 (.slice p nf c) nf xs → Q.ownsRow base 67 4 (.slice p nf c) nf xs from fun base p c xs h0 => own_same h0 (fun g hg => by
    obtain ⟨cu, hc⟩ := own_ty h0 hg
    exact q2.obj g (row_lt hc) (row_ne hc HXZ.out (by decide))))
  have HFQ := hid (HA.out _ _ _ _ (own_on HF1.out B1Z.out))
  have HFz := hid (show Fz Q pf cf F from by unfold Fz; rw [HNF.out]; exact own_base HFQ.out (Nat.zero_le _))
  have HFy := hid (show Fz Q pg cg F from by
    have := HF2.out.on BZ.out
    unfold Fz at this ⊢
    rw [HNF.out] at this ⊢
    exact HA.out _ _ _ _ this)
  clear hQ k0 k1 k2 k3 f1 f2 f3 c0 c1' c2' q1 q2
  go_upto_region 29 with (go_at_call 21; with_reducible refine (CS.out _ _ _ _ _ HFz.out HFy.out).mono ?_; rintro e v3 ⟨rfl, V3⟩; obtain ⟨a0, a1, a2, a3, a4⟩ := row5 (row_on HGQ.out V3.out); obtain ⟨b0, b1, b2, b3, b4⟩ := row5 (row_on HCQ.out V3.out))
  have HF3 := hid (own_on HFQ.out V3.out)
  go_loopw [28] (fun iv wr => ∃ i : Nat, i ≤ nf ∧ iv = .int .i64 i ∧ Hid (∃ xs, wr.ownsRow W.heap.size 67 4 (.slice pf nf cf) nf xs) ∧ Hid (Kp (fun j => OfP pf j) v3 wr)) (fun iv _ => nf - (intOf iv).toNat)
  case atStart => exact ⟨0, Nat.zero_le _, rfl, hid ⟨_, HF3.out⟩, hid (Kp.refl _ _)⟩
  case round =>
    obtain ⟨i, hik, rfl, HXS, HKP⟩ := hrel
    by_cases hlt : i < nf
    · obtain ⟨xs, hxs⟩ := HXS.out
      obtain ⟨gf, hp, hcl⟩ := own_any hxs (by omega)
      subst hp
      have HXX := hid hxs
      obtain ⟨⟨u0, a0⟩, f0⟩ := hcl (i * 4) (by omega)
      obtain ⟨⟨u1, a1⟩, f1⟩ := hcl (i * 4 + 1) (by omega)
      obtain ⟨⟨u2, a2⟩, f2⟩ := hcl (i * 4 + 2) (by omega)
      obtain ⟨⟨u3, a3⟩, f3⟩ := hcl (i * 4 + 3) (by omega)
      have i0' : (0 : Int) ≤ (i : Int) := by omega
      have i1 : (i : Int) < (nf : Int) := by omega
      clear hcl hxs
      go_wp2
      go_roundw
      case rel =>
        refine ⟨i + 1, by omega, by go_num, hid ?_, hid ?_⟩
        · obtain ⟨y0, e0⟩ := own_set HXX.out (OfP.mk gf) (i * 4) (.int .u64 4713)
          obtain ⟨y1, e1⟩ := own_set e0 (OfP.mk gf) (i * 4 + 1) (.int .u64 0)
          obtain ⟨y2, e2⟩ := own_set e1 (OfP.mk gf) (i * 4 + 2) (.int .i64 0)
          obtain ⟨y3, e3⟩ := own_set e2 (OfP.mk gf) (i * 4 + 3) (.int .u64 0)
          exact ⟨y3, e3⟩
        · exact HKP.out.trans ((((Kp.set wr gf (i * 4) _).trans (Kp.set _ gf (i * 4 + 1) _) (fun _ _ h => h)).trans (Kp.set _ gf (i * 4 + 2) _) (fun _ _ h => h)).trans (Kp.set _ gf (i * 4 + 3) _) (fun _ _ h => h)) (fun j _ e => by subst e; exact OfP.mk j)
      case measure => simp [intOf]; omega
    · obtain rfl : i = nf := by omega
      go_wp2
      go_ret
      refine ⟨rfl, ?_⟩
      have hft : ∀ g, OfP pf g → W.heap.size ≤ g ∧ ∃ cu, v3.heap[g]? = some (.cells cu 67 (0, 0)) := fun g hg => by
        subst hg
        exact ⟨own_geQ HF3.out (OfP.mk g), own_ty HF3.out (by
          obtain ⟨_, ⟨e1, _⟩ | ⟨g', c', cur, e1, _⟩⟩ := HF3.out
          · cases (Value.slice.inj e1).1
          · rw [e1]; have := (Value.slice.inj e1).1; injection this with this; injection this with this; rw [this]; rfl)⟩
      have nf3 : ∀ (g : Nat) (t : TypeId) (cs : Array Value), t ≠ 67 → v3.heap[g]? = some (.cells cs t (0, 0)) → ¬ OfP pf g := fun g t cs ht hg e => by
        obtain ⟨_, cu, hc⟩ := hft g e
        exact row_ne hg hc ht rfl
      have hX3 := row_on HQ1.out V3.out
      have nX : ∀ (g : Nat) (t : TypeId) (cs : Array Value), t ≠ 31 → Z.heap[g]? = some (.cells cs t (0, 0)) → g ≠ X := fun g t cs ht hg e => by
        subst e; exact row_ne hg HXZ.out ht rfl
      have hclQ : Cl Q B r m p1 c1 l1 p2 c2 l2 := (HC1.out.on B1Z.out).kept HQ2.out (nX B _ _ (by decide) (HC1.out.on B1Z.out).row) (fun g hg => by
        rcases hg with hg | hg
        · obtain ⟨cu, hc⟩ := (HC1.out.on B1Z.out).l1.ty hg; exact nX g _ _ (by decide) hc
        · obtain ⟨cu, hc⟩ := (HC1.out.on B1Z.out).l2.ty hg; exact nX g _ _ (by decide) hc)
      have hcl3 := hclQ.on V3.out
      have hclV : Cl wr B r m p1 c1 l1 p2 c2 l2 := hcl3.kept HKP.out (nf3 B _ _ (by decide) hcl3.row) (fun g hg => by
        rcases hg with hg | hg
        · obtain ⟨cu, hc⟩ := hcl3.l1.ty hg; exact nf3 g _ _ (by decide) hc
        · obtain ⟨cu, hc⟩ := hcl3.l2.ty hg; exact nf3 g _ _ (by decide) hc)
      have hliZ := HLI.out.on BZ.out
      have hliQ : Li Q p' c' L' := hliZ.kept HQ2.out (fun g hg => by obtain ⟨cu, hc⟩ := hliZ.ty hg; exact nX g _ _ (by decide) hc)
      have hli3 := hliQ.on V3.out
      have hliV : Li wr p' c' L' := hli3.kept HKP.out (fun g hg => by obtain ⟨cu, hc⟩ := hli3.ty hg; exact nf3 g _ _ (by decide) hc)
      have hrow := HKP.out.row hX3 (nf3 X _ _ (by decide) hX3)
      rw [← HN2.out] at hrow
      rw [← HIS.out.1, ← HIS.out.2] at hclV
      have hsW := HBW.out.size
      have hs1 := K1.out.size
      have hsY := BY.out.size
      refine HP0.out.done hrow hclV hliV HLK.out (fun g hg => .inl hg) (fun g hg => (FRE.out g hg).imp _root_.id (fun e => by omega)) (fun g h1 h2 => ?_) ?_
      · rcases FRE.out g h2 with h3 | h3
        · exact HP0.out.ap g h1 h3
        · have := (HP0.out.og g (HP0.out.o1 g h1)).2; omega
      · have e1 := (Kp.of (fun g => g = X ∨ g = B ∨ OfP p1 g ∨ OfP p2 g) HBW.out).trans (K1.out.mono (C := fun g => g = X ∨ g = B ∨ OfP p1 g ∨ OfP p2 g) (fun g _ e => .inr e)) (fun _ _ h => h)
        have e2 := e1.trans (Kp.of (fun g => g = X ∨ g = B ∨ OfP p1 g ∨ OfP p2 g) B1Z.out) (fun _ _ h => h)
        have e3 := e2.trans (HQ2.out.mono (C := fun g => g = X ∨ g = B ∨ OfP p1 g ∨ OfP p2 g) (fun g _ e => .inl e)) (fun _ _ h => h)
        have e4 := e3.trans (Kp.of (fun g => g = X ∨ g = B ∨ OfP p1 g ∨ OfP p2 g) V3.out) (fun _ _ h => h)
        exact e4.trans HKP.out (fun g hg e => absurd (hft g e).1 (by omega))
end Go.Proofs.YtnmkfdndfhefiaaGreat
