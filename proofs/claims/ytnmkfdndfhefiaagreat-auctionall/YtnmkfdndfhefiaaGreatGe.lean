/-
  The document's Drop.
-/
import Derived.Test.YtnmkfdndfhefiaaGreatQuG
namespace Go.Proofs.YtnmkfdndfhefiaaGreat
open Go.RowKit Go.Deep Go.Shelf
set_option linter.unusedVariables false
set_option linter.unusedSimpArgs false
set_option maxHeartbeats 16000000
set_option maxRecDepth 100000
theorem step_app_at {w : World} {ops : Array Oper} {oo : Oper} {a : Act} {K : Act → World → Prop} {Q : Exit → Act → World → Prop} {E : Prop} (hgd : oo.guard = none) (s x : Operand)
    (ho : oo.op = .call { callee := .builtin .append, args := #[s, x], argTypes := #[27, 27] })
    (base : Nat) (v : Value) (n : Nat) (ys : List It) (hs : a.eval s = v) (hown : w.ownsRow base 35 6 v n (its ys))
    (q : Option Addr) (ad : Addr) (hq : q = some ad) (c m : Nat) (xs : List It) (hx : a.eval x = .slice q m c) (hl : xs.length = m) (hc : ∀ j u, (its xs)[j]? = some u → w.cell? (ad.add j) = some u)
    (h63 : n + m ≤ 8192) (hbase : base ≤ w.heap.size)
    (h : ∀ v' w', Hid (w'.ownsRow base 35 6 v' (n + m) (its (ys ++ xs))) → Hid (w.grownBy w' v.ownBlock) → K (a.put oo.dst v') w') :
    if Region.wanted oo (yielded ops a.tmps) = true then Oper.wp Tryz.prog oo a w K Q else E := by
  have hw : Region.wanted oo (yielded ops a.tmps) = true := by simp [Region.wanted, hgd]
  rw [if_pos hw]
  subst hq
  obtain ⟨i0, hi, hz0, hz1, hz2⟩ := info_parts infoIt
  exact wp_append_own _ s x 27 ho base 35 i0 _ 6 48 Tryz.underlying27 hi hz0 hz1 hz2 rfl (by decide) v n (its ys) hs hown ad m c (its xs) hx (by rw [its_len, hl]) hc (its_one xs) (by unfold maxLen; omega) (by omega) hbase (fun v' w' h2 h3 _ => h v' w' (hid (by rw [its_app]; exact h2)) (hid h3))
theorem part_cells {w : World} {g c : Nat} {l : List It} (h : Li w (some ⟨g, 0, none⟩) c l) (a b : Nat) (hb : b ≤ l.length) : ∀ j u, (its ((l.take b).drop a))[j]? = some u → w.cell? ((⟨g, a * 6, none⟩ : Addr).add j) = some u := by
  intro j u hj
  obtain ⟨_, hcl⟩ := own_cells h
  have e : its ((l.take b).drop a) = (its (l.take b)).drop (a * 6) := (its_drop _ _).symm
  rw [e, List.getElem?_drop] at hj
  have e2 : its (l.take b) = (its l).take (b * 6) := (its_take _ _).symm
  rw [e2, List.getElem?_take] at hj
  split at hj
  · have := hcl (a * 6 + j) u hj
    have e3 : (⟨g, a * 6, none⟩ : Addr).add j = (⟨g, 0, none⟩ : Addr).add (a * 6 + j) := by rw [Addr.add_lit, Addr.add_lit, Nat.zero_add]
    rw [e3]
    exact this
  · cases hj
theorem own_geP {base : Nat} {w : World} {e : TypeId} {size n c : Nat} {p : Option Addr} {xs : List Value} (h : w.ownsRow base e size (.slice p n c) n xs) {g : Nat} (hg : OfP p g) : base ≤ g := by
  subst hg
  obtain ⟨_, ⟨e1, _⟩ | ⟨g', c', cur, e1, r1, _⟩⟩ := h
  · cases (Value.slice.inj e1).1
  · have := (Value.slice.inj e1).1
    injection this with this
    injection this with this
    omega
theorem res_cct {P : Program} {fn : Func} {p p2 q : Tmp} {ty ty2 : TypeId} (h : fn.results = #[.cell p ty, .cell p2 ty2, .tmp q]) (tmps : Array Value) (w : World) (g g2 : Nat) (t t2 : TypeId) (cs cs2 : Array Value) (fr fr2 : Nat × Nat) (d d2 : TypeDesc) (v : Value)
    (hp : tmps.getD p undef = .pointer (some ⟨g, 0, none⟩)) (hp2 : tmps.getD p2 undef = .pointer (some ⟨g2, 0, none⟩)) (hq : tmps.getD q undef = v) (hg : w.heap[g]? = some (.cells cs t fr)) (hg2 : w.heap[g2]? = some (.cells cs2 t2 fr2))
    (hu : P.underlying ty = some d) (hd : (match d with | .struct _ | .array _ _ => true | _ => false) = true) (hi : (P.info? ty).map (·.size) = some cs.size)
    (hu2 : P.underlying ty2 = some d2) (hd2 : (match d2 with | .struct _ | .array _ _ => true | _ => false) = true) (hi2 : (P.info? ty2).map (·.size) = some cs2.size) :
    (results fn tmps).run P w = .ok (.tuple #[.agg cs, .agg cs2, v]) w := by
  have hp' : tmps[p]?.getD undef = .pointer (some ⟨g, 0, none⟩) := by simpa using hp
  have hp2' : tmps[p2]?.getD undef = .pointer (some ⟨g2, 0, none⟩) := by simpa using hp2
  have hq' : tmps[q]?.getD undef = v := by simpa using hq
  simp [results, h, hp', hp2', hq', asAddr, run_loadVar_row w g t ty cs fr d hg hu hd hi, run_loadVar_row w g2 t2 ty2 cs2 fr2 d2 hg2 hu2 hd2 hi2]
theorem infoI6 : (Tryz.prog.info? 35).map (·.size) = some 6 := by kernel_rfl
/-- what stands at the document's Drop. -/
structure Dr0 (w W : World) (R : Nat) (r m : Int) (v : Value) : Prop where
  be : Below w.heap.size w W
  a : W.heap[R]? = some (.cells #[.int .i64 r, .int .i64 m, v] 29 (0, 0))
  b : W.heap[R + 1]? = some (.cells #[.int .i64 0, .int .i64 0, .slice none 0 0] 29 (0, 0))
  z : W.heap[R + 2]? = some (.cells #[.int .u64 0, .int .u32 0, .int .i64 0, .int .i64 0, .int .i64 0, .int .u64 0] 35 (0, 0))
theorem Dr0.mk' {w W : World} {R : Nat} {r m : Int} {v : Value} (hW : ((w.alloc (.cells #[.int .i64 r, .int .i64 m, v] 29)).alloc (.cells #[.int .i64 0, .int .i64 0, .slice none 0 0] 29)).alloc (.cells #[.int .u64 0, .int .u32 0, .int .i64 0, .int .i64 0, .int .i64 0, .int .u64 0] 35) = W) (hR : w.heap.size = R) : Dr0 w W R r m v := by
  rw [← hW, ← hR]
  refine ⟨btr (btr (ball _ _) (ball _ _)) (ball _ _), row_on (row_on (World.alloc_heap_new _ _) (ball _ _)) (ball _ _), ?_, ?_⟩
  · have := row_on (World.alloc_heap_new (w.alloc (.cells #[.int .i64 r, .int .i64 m, v] 29)) (.cells #[.int .i64 0, .int .i64 0, .slice none 0 0] 29)) (ball _ (.cells #[.int .u64 0, .int .u32 0, .int .i64 0, .int .i64 0, .int .i64 0, .int .u64 0] 35))
    simpa using this
  · have := World.alloc_heap_new ((w.alloc (.cells #[.int .i64 r, .int .i64 m, v] 29)).alloc (.cells #[.int .i64 0, .int .i64 0, .slice none 0 0] 29)) (.cells #[.int .u64 0, .int .u32 0, .int .i64 0, .int .i64 0, .int .i64 0, .int .u64 0] 35)
    simpa using this
theorem Dr0.on {w W U : World} {R : Nat} {r m : Int} {v : Value} (h : Dr0 w W R r m v) (hb : Below W.heap.size W U) : Dr0 w U R r m v := ⟨btr h.be hb, row_on h.a hb, row_on h.b hb, row_on h.z hb⟩
/-- both results are written. -/
theorem dr_end {w U : World} {R : Nat} {r m : Int} {v : Value} {x : It} (hR : w.heap.size = R) (h : Dr0 w U R r m v) :
    (((((((((U.setCell ⟨R + 1, 0, none⟩ (.int .i64 r)).setCell ⟨R + 1, 1, none⟩ (.int .i64 m)).setCell ⟨R + 1, 2, none⟩ v).setCell ⟨R + 2, 0, none⟩ (.int .u64 x.id)).setCell ⟨R + 2, 1, none⟩ (.int .u32 x.mb)).setCell ⟨R + 2, 2, none⟩ (.int .i64 x.sd)).setCell ⟨R + 2, 3, none⟩ (.int .i64 x.ty)).setCell ⟨R + 2, 4, none⟩ (.int .i64 x.pr)).setCell ⟨R + 2, 5, none⟩ (.int .u64 x.qt)).heap[R + 1]? = some (.cells #[.int .i64 r, .int .i64 m, v] 29 (0, 0)) ∧
    (((((((((U.setCell ⟨R + 1, 0, none⟩ (.int .i64 r)).setCell ⟨R + 1, 1, none⟩ (.int .i64 m)).setCell ⟨R + 1, 2, none⟩ v).setCell ⟨R + 2, 0, none⟩ (.int .u64 x.id)).setCell ⟨R + 2, 1, none⟩ (.int .u32 x.mb)).setCell ⟨R + 2, 2, none⟩ (.int .i64 x.sd)).setCell ⟨R + 2, 3, none⟩ (.int .i64 x.ty)).setCell ⟨R + 2, 4, none⟩ (.int .i64 x.pr)).setCell ⟨R + 2, 5, none⟩ (.int .u64 x.qt)).heap[R + 2]? = some (.cells #[.int .u64 x.id, .int .u32 x.mb, .int .i64 x.sd, .int .i64 x.ty, .int .i64 x.pr, .int .u64 x.qt] 35 (0, 0)) ∧
    Kp (fun j => j = R + 1 ∨ j = R + 2) U (((((((((U.setCell ⟨R + 1, 0, none⟩ (.int .i64 r)).setCell ⟨R + 1, 1, none⟩ (.int .i64 m)).setCell ⟨R + 1, 2, none⟩ v).setCell ⟨R + 2, 0, none⟩ (.int .u64 x.id)).setCell ⟨R + 2, 1, none⟩ (.int .u32 x.mb)).setCell ⟨R + 2, 2, none⟩ (.int .i64 x.sd)).setCell ⟨R + 2, 3, none⟩ (.int .i64 x.ty)).setCell ⟨R + 2, 4, none⟩ (.int .i64 x.pr)).setCell ⟨R + 2, 5, none⟩ (.int .u64 x.qt)) := by
  have e1 := heap_setCell_same _ (R + 1) 2 _ _ v (heap_setCell_same _ (R + 1) 1 _ _ (.int .i64 m) (heap_setCell_same U (R + 1) 0 _ _ (.int .i64 r) h.b))
  have k1 : Kp (fun j => j = R + 1) U (((U.setCell ⟨R + 1, 0, none⟩ (.int .i64 r)).setCell ⟨R + 1, 1, none⟩ (.int .i64 m)).setCell ⟨R + 1, 2, none⟩ v) := ((Kp.set U (R + 1) 0 _).trans (Kp.set _ (R + 1) 1 _) (fun _ _ h => h)).trans (Kp.set _ (R + 1) 2 _) (fun _ _ h => h)
  have hz := k1.row h.z (by omega)
  obtain ⟨U1, hU1⟩ : ∃ U1, ((U.setCell ⟨R + 1, 0, none⟩ (.int .i64 r)).setCell ⟨R + 1, 1, none⟩ (.int .i64 m)).setCell ⟨R + 1, 2, none⟩ v = U1 := ⟨_, rfl⟩
  rw [hU1] at e1 k1 hz ⊢
  have k2 := setCells_kp (R + 2) (irow x).toList 0 U1
  have r2 := setCells_row (irow x).toList 0 U1 _ hz
  have e2 : U1.setCells (R + 2) 0 (irow x).toList = (((((U1.setCell ⟨R + 2, 0, none⟩ (.int .u64 x.id)).setCell ⟨R + 2, 1, none⟩ (.int .u32 x.mb)).setCell ⟨R + 2, 2, none⟩ (.int .i64 x.sd)).setCell ⟨R + 2, 3, none⟩ (.int .i64 x.ty)).setCell ⟨R + 2, 4, none⟩ (.int .i64 x.pr)).setCell ⟨R + 2, 5, none⟩ (.int .u64 x.qt) := rfl
  rw [e2] at k2 r2
  refine ⟨k2.row e1 (by omega), r2, (k1.mono (fun _ _ h => .inl h)).trans k2 (fun _ _ h => .inr h)⟩
end Go.Proofs.YtnmkfdndfhefiaaGreat
namespace Go.Proofs.YtnmkfdndfhefiaaGreat
open Go.RowKit Go.Deep Go.Shelf
set_option linter.unusedVariables false
set_option linter.unusedSimpArgs false
set_option maxHeartbeats 16000000
set_option maxRecDepth 100000
/-- the call that is left is written. -/
theorem dr_mid {w X w9 : World} {R n1 q9 δ : Nat} {r m : Int} {v : Value} {p9 : Option Addr} {l3 : List It} {o : Obj} (hR : w.heap.size = R) (he : Dr0 w X R r m v) (vb : Below X.heap.size X w9) (ho : w9.ownsRow X.heap.size 35 6 (.slice p9 n1 q9) n1 (its l3)) (hd : X.heap[δ]? = some o) (hne : δ ≠ R) :
    Dr0 w (w9.setCell ⟨R, 2, none⟩ (.slice p9 n1 q9)) R r m (.slice p9 n1 q9) ∧ (w9.setCell ⟨R, 2, none⟩ (.slice p9 n1 q9)).ownsRow X.heap.size 35 6 (.slice p9 n1 q9) n1 (its l3) ∧ (w9.setCell ⟨R, 2, none⟩ (.slice p9 n1 q9)).heap[δ]? = some o ∧ R + 2 < X.heap.size := by
  have k := Kp.set w9 R 2 (.slice p9 n1 q9)
  have hz := row_lt he.z
  have hbe := btr he.be vb
  refine ⟨⟨hbe.trans (k.below hbe.size (fun g hg e => by omega)), heap_setCell_same w9 R 2 _ _ _ (row_on he.a vb), k.row (row_on he.b vb) (by omega), k.row (row_on he.z vb) (by omega)⟩, own_same ho (fun g hg => ?_), k.row (row_on hd vb) hne, hz⟩
  have h1 := own_ge ho hg
  obtain ⟨cu, hcu⟩ := own_ty ho hg
  exact k.obj g (row_lt hcu) (by omega)
theorem li_kp {U V : World} {R n1 q9 base : Nat} {p9 : Option Addr} {l3 : List It} (hn : l3.length = n1) (h : U.ownsRow base 35 6 (.slice p9 n1 q9) n1 (its l3)) (hk : Kp (fun j => j = R + 1 ∨ j = R + 2) U V) (hb : R + 2 < base) : Li V p9 q9 l3 := by
  unfold Li
  rw [hn]
  refine own_base (own_same h (fun g hg => ?_)) (Nat.zero_le _)
  have h1 := own_ge h hg
  obtain ⟨cu, hcu⟩ := own_ty h hg
  exact hk.obj g (row_lt hcu) (by omega)
theorem rdrop_at (r m : Int) (p : Option Addr) (c : Nat) (L : List It) (i : Nat) (hi : i < L.length) (w : World) (h : Li w p c L) (hk : Lk L) :
    Calls Tryz.prog 13 #[.agg #[.int .i64 r, .int .i64 m, .slice p L.length c], .int .u64 L[i].id] w fun e w' => ∃ p' c', e = .returned (.tuple #[.agg #[.int .i64 r, .int .i64 m, .slice p' (oth L[i].id L).length c'], .agg #[.int .u64 L[i].id, .int .u32 L[i].mb, .int .i64 L[i].sd, .int .i64 L[i].ty, .int .i64 L[i].pr, .int .u64 L[i].qt], .bool true]) ∧ Li w' p' c' (oth L[i].id L) ∧ Below w.heap.size w w' ∧ ∀ g, OfP p' g → w.heap.size ≤ g := by
  obtain ⟨g, hp, _⟩ := h.cells hi
  subst hp
  have hcap := h.cap
  have CP := hid (fun (U : World) (hU : Below w.heap.size w U) => rplace_any r m L[i].id (some ⟨g, 0, none⟩) c L U (h.on hU) hk.ln)
  obtain ⟨i', hi', e1, e2⟩ := fni_in hk (List.getElem_mem hi)
  have hii : i' = i := by
    have hn := List.pairwise_iff_getElem.1 hk.nd
    rcases Nat.lt_trichotomy i' i with hl | hl | hl
    · have := hn i' i (by simpa using hi') (by simpa using hi) hl
      simp only [List.getElem_map] at this
      exact absurd (by rw [e2]) this
    · exact hl
    · have := hn i i' (by simpa using hi) (by simpa using hi') hl
      simp only [List.getElem_map] at this
      exact absurd (by rw [e2]) this
  rw [e1, hii] at CP
  clear e1 e2 hi' hii
  have hot := oth_at hk hi
  have HCE := hid (fun (U : World) (hU : Below w.heap.size w U) => (h.on hU).cells hi)
  have HLI := hid (fun (U : World) (hU : Below w.heap.size w U) => h.on hU)
  obtain ⟨x, hx⟩ : ∃ x, L[i] = x := ⟨_, rfl⟩
  rw [hx] at CP hot HCE ⊢
  obtain ⟨O, hO⟩ : ∃ O, oth x.id L = O := ⟨_, rfl⟩
  rw [hO] at hot ⊢
  have HOT := hid hot
  obtain ⟨n, hnn⟩ : ∃ n, L.length = n := ⟨_, rfl⟩
  have HNN := hid hnn
  rw [hnn] at hi CP hcap ⊢
  have hln : n ≤ 4096 := by rw [← hnn]; exact hk.ln
  obtain ⟨n1, hn1⟩ : ∃ n1, i + (n - (i + 1)) = n1 := ⟨_, rfl⟩
  have hO1 : O.length = n1 := by rw [← hot, List.length_append, List.length_take, List.length_drop, hnn]; omega
  rw [hO1]
  have HO1 := hid hO1
  have HN1 := hid hn1
  obtain ⟨R, hR⟩ : ∃ R, w.heap.size = R := ⟨_, rfl⟩
  obtain ⟨W, hW⟩ : ∃ W, ((w.alloc (.cells #[.int .i64 r, .int .i64 m, .slice (some ⟨g, 0, none⟩) n c] 29)).alloc (.cells #[.int .i64 0, .int .i64 0, .slice none 0 0] 29)).alloc (.cells #[.int .u64 0, .int .u32 0, .int .i64 0, .int .i64 0, .int .i64 0, .int .u64 0] 35) = W := ⟨_, rfl⟩
  have HE := hid (Dr0.mk' hW hR)
  have HW := hid hW
  have HRR := hid hR
  obtain ⟨k0, k1, k2⟩ := row3 HE.out.a
  have CPW := hid (CP.out W HE.out.be)
  have i0 : (0 : Int) ≤ (i : Int) := by omega
  have i1 : (i : Int) < (n : Int) := by omega
  have t0 : decide ((i : Int) < 0) = false := decide_eq_false (by omega)
  clear hW hR h hnn CP hk hot hx hO hO1 hn1
  go_enter Tryz.func13, Tryz.ntmps13
  go_upto_region 1 with fail
  rw [HW.out, HRR.out]
  go_upto_region 4 with (go_at_call 28; with_reducible refine (CPW.out).mono ?_; rintro e v1 ⟨rfl, hb⟩; have V1 := hid hb; clear hb)
  have HE1 := hid (HE.out.on V1.out)
  clear k0 k1 k2
  obtain ⟨k0, k1, k2⟩ := row3 HE1.out.a
  obtain ⟨g', hg, a0, a1, a2, a3, a4, a5⟩ := HCE.out v1 HE1.out.be
  obtain rfl : g = g' := by injection hg with e; injection e
  obtain ⟨X, hX⟩ : ∃ X, v1.alloc (.cells #[.int .u64 x.id, .int .u32 x.mb, .int .i64 x.sd, .int .i64 x.ty, .int .i64 x.pr, .int .u64 x.qt] 35) = X := ⟨_, rfl⟩
  obtain ⟨δ, hδ⟩ : ∃ d, v1.heap.size = d := ⟨_, rfl⟩
  have HBX := hid (show Below v1.heap.size v1 X from by rw [← hX]; exact ball _ _)
  have HXD := hid (show X.heap[δ]? = some (.cells #[.int .u64 x.id, .int .u32 x.mb, .int .i64 x.sd, .int .i64 x.ty, .int .i64 x.pr, .int .u64 x.qt] 35 (0, 0)) from by rw [← hX, ← hδ]; exact World.alloc_heap_new _ _)
  have HXX := hid hX
  have Hδ := hid hδ
  clear hX hδ hg
  go_upto_region 5 with fail
  rw [HXX.out, Hδ.out]
  clear a0 a1 a2 a3 a4 a5 k0 k1 k2
  have HEX := hid (HE1.out.on HBX.out)
  obtain ⟨k0, k1, k2⟩ := row3 HEX.out.a
  have sR : R < X.heap.size := row_lt HEX.out.a
  have LIX := hid (HLI.out X HEX.out.be)
  have kc : (i : Int) ≤ (c : Int) := by omega
  have k2' : (i : Int) + 1 ≤ (n : Int) := by omega
  have k3 : (0 : Int) ≤ (i : Int) + 1 := by omega
  have kw : IntKind.i64.wrap ((i : Int) + 1) = (i : Int) + 1 := by rw [IntKind.wrap_i64]; omega
  have HOW := hid (show ((X.alloc (.cells #[] 35)).drew).ownsRow X.heap.size 35 6 (.slice (some ⟨X.heap.size, 0, none⟩) 0 0) 0 (its []) from own_on (own_none X) (bdrew1 _))
  have HLA := hid (show Li ((X.alloc (.cells #[] 35)).drew) (some ⟨g, 0, none⟩) c L from LIX.out.on (btr (ball _ _) (bdrew1 _)))
  have HPC := hid (fun j u (hj : (its (L.take i))[j]? = some u) => part_cells HLA.out 0 i (by rw [HNN.out]; omega) j u (by rw [List.drop_zero]; exact hj))
  have HGL := hid (show g < X.heap.size from by obtain ⟨cu, hcu⟩ := LIX.out.ty (OfP.mk g); exact row_lt hcu)
  obtain ⟨AD, hAD⟩ : ∃ ad : Addr, (if c = i + 1 then some ⟨g, 0, none⟩ else some ⟨g, (i + 1) * 6, none⟩ : Option Addr) = some ad := by
    by_cases hcc : c = i + 1
    · exact ⟨_, if_pos hcc⟩
    · exact ⟨_, if_neg hcc⟩
  have HAD := hid hAD
  clear hAD
  have HA1 := hid (show ∀ (w8 : World) (p8 : Option Addr) (q8 : Nat), w8.ownsRow X.heap.size 35 6 (.slice p8 (0 + i) q8) (0 + i) (its ([] ++ L.take i)) → ((X.alloc (.cells #[] 35)).drew).grownBy w8 (Value.slice (some ⟨X.heap.size, 0, none⟩) 0 0).ownBlock → w8.ownsRow X.heap.size 35 6 (.slice p8 i q8) i (its (L.take i)) ∧ Below X.heap.size X w8 ∧ ∀ j u, (its (L.drop (i + 1)))[j]? = some u → w8.cell? (AD.add j) = some u from fun w8 p8 q8 hown hgrow => by
    have hgl := HGL.out
    have hl8 : Li w8 (some ⟨g, 0, none⟩) c L := HLA.out.same (fun b hb => by
      rw [hb.eq]
      exact hgrow.block g (by simp; omega) (fun e => by have e2 : some g = some X.heap.size := e; injection e2 with e2; omega))
    refine ⟨by simpa using hown, (btr (ball X (.cells #[] 35)) (bdrew1 _)).grown hgrow (by simp) (fun j hj => by cases hj; exact Nat.le_refl _), fun j u hj => ?_⟩
    have had := HAD.out
    by_cases hcc : c = i + 1
    · have : L.drop (i + 1) = [] := List.drop_of_length_le (by rw [HNN.out]; omega)
      rw [this] at hj
      simp [its] at hj
    · rw [if_neg hcc] at had
      injection had with had
      rw [← had]
      exact part_cells hl8 (i + 1) L.length (Nat.le_refl _) j u (by rw [List.take_of_length_le (Nat.le_refl _)]; exact hj))
  have HP1 := hid (show ∀ j u, (its (L.take i))[j]? = some u → ((X.alloc (.cells #[] 35)).drew).cell? ((⟨g, 0, none⟩ : Addr).add j) = some u from fun j u hj => by have := HPC.out j u hj; rw [Nat.zero_mul] at this; exact this)
  have HL1 := hid (show (L.take i).length = i from by rw [List.length_take, HNN.out]; omega)
  have HL2 := hid (show (L.drop (i + 1)).length = n - (i + 1) from by rw [List.length_drop, HNN.out])
  have hcn : n ≤ c := hcap.1
  go_region_law (first | (refine step_app_at (by rfl) (.tmp 21) (.tmp 25) (by rfl) X.heap.size _ 0 [] (by rfl) HOW.out (some ⟨g, 0, none⟩) ⟨g, 0, none⟩ rfl c i (L.take i) (by rfl) HL1.out HP1.out (by omega) (by simp) ?_; intro v' w8 hown hgrow; obtain ⟨p8, q8, rfl⟩ := own_form hown.out; have HO8 := hid (HA1.out w8 p8 q8 hown.out hgrow.out); obtain ⟨f0, f1, f2⟩ := row3 (row_on HEX.out.a HO8.out.2.1); clear hown hgrow) | (refine step_app_at (by rfl) (.tmp 26) (.tmp 31) (by rfl) X.heap.size _ i (L.take i) (by rfl) HO8.out.1 (if c = i + 1 then some ⟨g, 0, none⟩ else some ⟨g, (i + 1) * 6, none⟩) AD HAD.out (c - (i + 1)) (n - (i + 1)) (L.drop (i + 1)) (by rfl) HL2.out HO8.out.2.2 (by omega) HO8.out.2.1.size ?_; intro v' w9 hown hgrow; obtain ⟨p9, q9, rfl⟩ := own_form hown.out; have HO9 := hid hown.out; have VB := hid (show Below X.heap.size X w9 from HO8.out.2.1.grown hgrow.out HO8.out.2.1.size (fun k hk => own_geP HO8.out.1 (own_ofq HO8.out.1 hk))); obtain ⟨f0, f1, f2⟩ := row3 (row_on HEX.out.a VB.out); have fzb := row_frz (row_on HEX.out.a VB.out) 2; clear hown hgrow))
  all_goals (
    have HO9' := HO9.out
    rw [HN1.out, HOT.out] at HO9'
    rw [HN1.out]
    obtain ⟨dU, oU, xU, sU⟩ := dr_mid HRR.out HEX.out VB.out HO9' HXD.out (by have h1 := row_lt HE1.out.a; have h2 := Hδ.out; omega)
    obtain ⟨U, hU⟩ : ∃ U, w9.setCell ⟨R, 2, none⟩ (.slice p9 n1 q9) = U := ⟨_, rfl⟩
    rw [hU] at dU oU xU ⊢
    have hd1 : R + 2 < δ := by have h1 := row_lt HE1.out.z; have h2 := Hδ.out; omega
    have OU := hid oU
    have SU := hid sU
    have HKU := hid dU.a
    have HXU := hid xU
    have HBU := hid dU.be
    clear hU HOW HLA HPC HAD HA1 HP1 HL1 HL2 HO9 HO8 HO9' k0 k1 k2 f0 f1 f2 oU sU HE HE1 HEX HLI HCE CPW
    go_upto_region 6 with fail
    obtain ⟨X0, hX0⟩ : ∃ V, U.drew = V := ⟨_, rfl⟩
    have BX0 := hid (show Below U.heap.size U X0 from by rw [← hX0]; exact bdrew1 _)
    have HS := hid (show ∀ U : World, U.heap[R]? = some (.cells #[.int .i64 r, .int .i64 m, .slice p9 n1 q9] 29 (0, 0)) → U.heap[δ]? = some (.cells #[.int .u64 x.id, .int .u32 x.mb, .int .i64 x.sd, .int .i64 x.ty, .int .i64 x.pr, .int .u64 x.qt] 35 (0, 0)) → U.cell? ⟨R, 0, none⟩ = some (.int .i64 r) ∧ U.cell? ⟨R, 1, none⟩ = some (.int .i64 m) ∧ U.cell? ⟨R, 2, none⟩ = some (.slice p9 n1 q9) ∧ U.cell? ⟨δ, 0, none⟩ = some (.int .u64 x.id) ∧ U.cell? ⟨δ, 1, none⟩ = some (.int .u32 x.mb) ∧ U.cell? ⟨δ, 2, none⟩ = some (.int .i64 x.sd) ∧ U.cell? ⟨δ, 3, none⟩ = some (.int .i64 x.ty) ∧ U.cell? ⟨δ, 4, none⟩ = some (.int .i64 x.pr) ∧ U.cell? ⟨δ, 5, none⟩ = some (.int .u64 x.qt) from fun U e1 e2 => by
      obtain ⟨c0, c1, c2⟩ := row3 e1
      obtain ⟨y0, y1, y2, y3, y4, y5⟩ := row6 e2
      exact ⟨c0, c1, c2, y0, y1, y2, y3, y4, y5⟩)
    have HB0 := hid (row_on dU.b BX0.out)
    have HZ0 := hid (row_on dU.z BX0.out)
    have AS := hid (show (#[.int .i64 0, .int .i64 0, .slice none 0 0] : Array Value).size = (#[.int .i64 r, .int .i64 m, .slice p9 n1 q9] : Array Value).size from rfl)
    have AA := hid (show (#[.int .i64 r, .int .i64 m, .slice p9 n1 q9] : Array Value).all (·.oneCell') = true from by simp [Value.oneCell'])
    have AI2 := hid (show (Tryz.prog.info? 35).map (·.size) = some (#[.int .u64 x.id, .int .u32 x.mb, .int .i64 x.sd, .int .i64 x.ty, .int .i64 x.pr, .int .u64 x.qt] : Array Value).size from infoI6)
    have AS2 := hid (show (#[.int .u64 0, .int .u32 0, .int .i64 0, .int .i64 0, .int .i64 0, .int .u64 0] : Array Value).size = (#[.int .u64 x.id, .int .u32 x.mb, .int .i64 x.sd, .int .i64 x.ty, .int .i64 x.pr, .int .u64 x.qt] : Array Value).size from rfl)
    have AA2 := hid (show (#[.int .u64 x.id, .int .u32 x.mb, .int .i64 x.sd, .int .i64 x.ty, .int .i64 x.pr, .int .u64 x.qt] : Array Value).all (·.oneCell') = true from by simp [Value.oneCell'])
    have H0R := hid (row_on dU.a BX0.out)
    have H0D := hid (row_on xU BX0.out)
    clear dU xU
    refine wp_region_held_drew (S := (fun U => U.cell? ⟨R, 0, none⟩ = some (.int .i64 r) ∧ U.cell? ⟨R, 1, none⟩ = some (.int .i64 m) ∧ U.cell? ⟨R, 2, none⟩ = some (.slice p9 n1 q9) ∧ U.cell? ⟨δ, 0, none⟩ = some (.int .u64 x.id) ∧ U.cell? ⟨δ, 1, none⟩ = some (.int .u32 x.mb) ∧ U.cell? ⟨δ, 2, none⟩ = some (.int .i64 x.sd) ∧ U.cell? ⟨δ, 3, none⟩ = some (.int .i64 x.ty) ∧ U.cell? ⟨δ, 4, none⟩ = some (.int .i64 x.pr) ∧ U.cell? ⟨δ, 5, none⟩ = some (.int .u64 x.qt))) (by kernel_rfl) ?_ (fun hHeld => ?_)
    · (try dsimp only); rw [hX0]; exact HS.out X0 H0R.out H0D.out
    rw [hX0] at hHeld ⊢
    clear hX0
    refine' wpAnyH_take (i := 0) (oi := _) (v := _) rfl (by kernel_rfl) (by kernel_rfl) (by kernel_rfl) (fun _ _ _ h => h) (Or.inl ⟨by kernel_rfl, ?_⟩) (by assumption) ?_
    rotate_left
    · (intro w hSw; (try dsimp only at hSw); go_simp; try (with_reducible rfl))
    try simp only [List.getElem_toArray, List.getElem_cons_succ, List.getElem_cons_zero, Act.put, List.setIfInBounds_toArray, List.set_cons_zero, List.set_cons_succ]
    refine' wpAnyH_take (i := 1) (oi := _) (v := _) rfl (by kernel_rfl) (by kernel_rfl) (by kernel_rfl) (fun _ _ _ h => h) (Or.inl ⟨by kernel_rfl, ?_⟩) (by assumption) ?_
    rotate_left
    · (intro w hSw; (try dsimp only at hSw); go_simp; try (with_reducible rfl))
    try simp only [List.getElem_toArray, List.getElem_cons_succ, List.getElem_cons_zero, Act.put, List.setIfInBounds_toArray, List.set_cons_zero, List.set_cons_succ]
    refine wpAnyH_ready (rs := [2]) (by kernel_rfl) (by simp) ?_
    refine AllReadyH.cons (o := _) rfl (fun KK hK => ?_) AllReadyH.nil
    refine step_store_row (by rfl) 29 (.tmp 4) (.tmp 34) (by rfl) (R + 1) #[.int .i64 r, .int .i64 m, .slice p9 n1 q9] (by rfl) (by rfl) 29 _ HB0.out infoRc AS.out AA.out ?_
    obtain ⟨Y, hY⟩ : ∃ Y, X0.setRow (R + 1) #[.int .i64 r, .int .i64 m, .slice p9 n1 q9] = Y := ⟨_, rfl⟩
    have KY := hid (show Kp (fun j => j = R + 1) X0 Y from by rw [← hY]; exact setRow_kp _ _ _)
    have HKY := hid (show Y.heap[R + 1]? = some (.cells #[.int .i64 r, .int .i64 m, .slice p9 n1 q9] 29 (0, 0)) from by rw [← hY]; exact setRow_heap X0 (R + 1) _ _ 29 (0, 0) HB0.out)
    have HZY := hid (KY.out.row HZ0.out (by omega))
    have HBY := hid (show Below w.heap.size w Y from by rw [← hY]; exact setRow_below (btr HBU.out BX0.out) (by have := HRR.out; omega))
    have eR := hid (KY.out.row H0R.out (by omega))
    have eD := hid (KY.out.row H0D.out (by omega))
    rw [hY]
    refine hK.out _ _ ?_ (fun hHeld => ?_)
    · (try dsimp only); exact HS.out Y eR.out eD.out
    clear hK hY
    try simp only [List.getElem_toArray, List.getElem_cons_succ, List.getElem_cons_zero, Act.put, List.setIfInBounds_toArray, List.set_cons_zero, List.set_cons_succ]
    refine wpAnyH_ready (rs := [3]) (by kernel_rfl) (by simp) ?_
    refine AllReadyH.cons (o := _) rfl (fun KK hK => ?_) AllReadyH.nil
    refine step_store_row (by rfl) 35 (.tmp 5) (.tmp 35) (by rfl) (R + 2) #[.int .u64 x.id, .int .u32 x.mb, .int .i64 x.sd, .int .i64 x.ty, .int .i64 x.pr, .int .u64 x.qt] (by rfl) (by rfl) 35 _ HZY.out AI2.out AS2.out AA2.out ?_
    refine hK.out _ _ ?_ (fun hHeld => ?_)
    · (try dsimp only); exact HS.out _ ((setRow_other Y (R + 2) R _ (by omega)).trans eR.out) ((setRow_other Y (R + 2) δ _ (by omega)).trans eD.out)
    clear hK
    try simp only [List.getElem_toArray, List.getElem_cons_succ, List.getElem_cons_zero, Act.put, List.setIfInBounds_toArray, List.set_cons_zero, List.set_cons_succ]
    refine' wpAnyH_take (i := 4) (oi := _) (v := _) rfl (by kernel_rfl) (by kernel_rfl) (by kernel_rfl) (fun _ _ _ h => h) (Or.inl ⟨by kernel_rfl, ?_⟩) (by assumption) ?_
    rotate_left
    · (intro w hSw; (try dsimp only at hSw); go_simp; try (with_reducible rfl))
    try simp only [List.getElem_toArray, List.getElem_cons_succ, List.getElem_cons_zero, Act.put, List.setIfInBounds_toArray, List.set_cons_zero, List.set_cons_succ]
    refine wpAnyH_done (by kernel_rfl) ?_ _
    clear hHeld
    go_wp2
    all_goals (
      refine bodyPost_ret (res_cct (fn := Tryz.f13) Tryz.results13 _ _ (R + 1) (R + 2) 29 35 #[.int .i64 r, .int .i64 m, .slice p9 n1 q9] #[.int .u64 x.id, .int .u32 x.mb, .int .i64 x.sd, .int .i64 x.ty, .int .i64 x.pr, .int .u64 x.qt] (0, 0) (0, 0) _ _ (.bool true) (by rfl) (by rfl) (by rfl) ((setRow_other Y (R + 2) (R + 1) _ (by omega)).trans HKY.out) (setRow_heap _ _ _ _ 35 (0, 0) HZY.out) Tryz.underlying29 rfl infoR Tryz.underlying35 rfl infoI6) rfl ⟨p9, q9, rfl, ?_, ?_, fun g hg => by have h1 := own_geP OU.out hg; have h2 := HRR.out; have h3 := SU.out; omega⟩
      · exact li_kp HO1.out OU.out (((Kp.of _ BX0.out).trans (KY.out.mono (C := fun j => j = R + 1 ∨ j = R + 2) (fun _ _ h => .inl h)) (fun _ _ h => h)).trans ((setRow_kp Y (R + 2) _).mono (C := fun j => j = R + 1 ∨ j = R + 2) (fun _ _ h => .inr h)) (fun _ _ h => h)) SU.out
      · exact setRow_below HBY.out (by have := HRR.out; omega)))
end Go.Proofs.YtnmkfdndfhefiaaGreat
namespace Go.Proofs.YtnmkfdndfhefiaaGreat
open Go.RowKit Go.Deep Go.Shelf
set_option linter.unusedVariables false
set_option linter.unusedSimpArgs false
set_option maxHeartbeats 16000000
set_option maxRecDepth 100000
theorem wpList_its {w : World} {ops : Array Oper} {rest : List Oper} {oo : Oper} {a : Act} {Q : Exit → Act → World → Prop} (hgd : oo.guard = none) (s x : Operand)
    (ho : oo.op = .call { callee := .builtin .append, args := #[s, x], argTypes := #[27, 27] }) (base base2 : Nat) (v : Value) (n : Nat) (l1 : List It) (hs : a.eval s = v) (h1 : w.ownsRow base 35 6 v n (its l1))
    (v2 : Value) (m : Nat) (l2 : List It) (hx : a.eval x = v2) (h2 : w.ownsRow base2 35 6 v2 m (its l2)) (k : Nat) (hk : n + m = k) (l3 : List It) (hl : l1 ++ l2 = l3) (hb : n + m ≤ 8192) (hbase : base ≤ w.heap.size)
    (h : ∀ p' c' w', Hid (w'.ownsRow base 35 6 (.slice p' k c') k (its l3)) → Hid (w.grownBy w' v.ownBlock) → wpList Tryz.prog ops Q rest (a.put oo.dst (.slice p' k c')) w') : wpList Tryz.prog ops Q (oo :: rest) a w :=
  wpList_plain hgd fun _ hK => wp_its s x ho base base2 v n l1 hs h1 v2 m l2 hx h2 k hk l3 hl hb hbase fun p' c' w' h2 h3 => hK _ _ (h p' c' w' h2 h3)
theorem less_gone (r m : Int) (p : Option Addr) (c : Nat) (L : List It) (i : Nat) (hi : i < L.length) (w : World) (h : Li w p c L) (hk : Lk L) :
    Calls Tryz.prog 43 #[.agg #[.int .i64 r, .int .i64 m, .slice p L.length c], .int .u64 L[i].id, .int .u64 L[i].qt] w fun e w' => ∃ p' c', e = .returned (.agg #[.int .i64 r, .int .i64 m, .slice p' (oth L[i].id L).length c']) ∧ Li w' p' c' (oth L[i].id L) ∧ Below w.heap.size w w' ∧ ∀ g, OfP p' g → w.heap.size ≤ g := by
  obtain ⟨g, hp, _⟩ := h.cells hi
  subst hp
  have CP := hid (fun (U : World) (hU : Below w.heap.size w U) => rplace_any r m L[i].id (some ⟨g, 0, none⟩) c L U (h.on hU) hk.ln)
  have CD := hid (fun (U : World) (hU : Below w.heap.size w U) => rdrop_at r m (some ⟨g, 0, none⟩) c L i hi U (h.on hU) hk)
  obtain ⟨i', hi', e1, e2⟩ := fni_in hk (List.getElem_mem hi)
  have hii : i' = i := by
    have hn := List.pairwise_iff_getElem.1 hk.nd
    rcases Nat.lt_trichotomy i' i with hl | hl | hl
    · have := hn i' i (by simpa using hi') (by simpa using hi) hl
      simp only [List.getElem_map] at this
      exact absurd (by rw [e2]) this
    · exact hl
    · have := hn i i' (by simpa using hi) (by simpa using hi') hl
      simp only [List.getElem_map] at this
      exact absurd (by rw [e2]) this
  rw [e1, hii] at CP
  clear e1 e2 hi' hii
  have HCE := hid (fun (U : World) (hU : Below w.heap.size w U) => (h.on hU).cells hi)
  obtain ⟨x, hx⟩ : ∃ x, L[i] = x := ⟨_, rfl⟩
  rw [hx] at CP CD HCE ⊢
  obtain ⟨O, hO⟩ : ∃ O, oth x.id L = O := ⟨_, rfl⟩
  rw [hO] at CD ⊢
  obtain ⟨n1, hn1⟩ : ∃ n, O.length = n := ⟨_, rfl⟩
  rw [hn1] at CD ⊢
  obtain ⟨n, hnn⟩ : ∃ n, L.length = n := ⟨_, rfl⟩
  rw [hnn] at hi CP CD ⊢
  have hln : n ≤ 4096 := by rw [← hnn]; exact hk.ln
  obtain ⟨R, hR⟩ : ∃ R, w.heap.size = R := ⟨_, rfl⟩
  obtain ⟨W, hW⟩ : ∃ W, (w.alloc (.cells #[.int .i64 r, .int .i64 m, .slice (some ⟨g, 0, none⟩) n c] 29)).alloc (.cells #[.int .i64 0, .int .i64 0, .slice none 0 0] 29) = W := ⟨_, rfl⟩
  have HBW := hid (show Below w.heap.size w W from by rw [← hW]; exact btr (ball _ _) (ball _ _))
  have HK := hid (show W.heap[R]? = some (.cells #[.int .i64 r, .int .i64 m, .slice (some ⟨g, 0, none⟩) n c] 29 (0, 0)) from by rw [← hW, ← hR]; exact row_on (World.alloc_heap_new _ _) (ball _ _))
  have HZ := hid (show W.heap[R + 1]? = some (.cells #[.int .i64 0, .int .i64 0, .slice none 0 0] 29 (0, 0)) from by
    rw [← hW, ← hR]
    have := World.alloc_heap_new (w.alloc (.cells #[.int .i64 r, .int .i64 m, .slice (some ⟨g, 0, none⟩) n c] 29)) (.cells #[.int .i64 0, .int .i64 0, .slice none 0 0] 29)
    simpa using this)
  have HW := hid hW
  have HRR := hid hR
  obtain ⟨k0, k1, k2⟩ := row3 HK.out
  have CPW := hid (CP.out W HBW.out)
  have i0 : (0 : Int) ≤ (i : Int) := by omega
  have i1 : (i : Int) < (n : Int) := by omega
  clear hW hR h hnn CP hk hx hO hn1
  go_enter Tryz.func43, Tryz.ntmps43
  go_upto_region 1 with fail
  rw [HW.out, HRR.out]
  go_upto_region 2 with (go_at_call 28; with_reducible refine (CPW.out).mono ?_; rintro e v1 ⟨rfl, hb⟩; have V1 := hid hb; clear hb)
  clear k0 k1 k2
  obtain ⟨k0, k1, k2⟩ := row3 (row_on HK.out V1.out)
  obtain ⟨g', hg, a0, a1, a2, a3, a4, a5⟩ := HCE.out v1 (btr HBW.out V1.out)
  obtain rfl : g = g' := by injection hg with e; injection e
  have CDW := hid (CD.out v1 (btr HBW.out V1.out))
  have tq : (x.qt == x.qt) = true := by simp
  clear hg CD
  go_upto_region 4 with (go_at_call 13; with_reducible refine (CDW.out).mono ?_; rintro e v2 ⟨p2, c2, rfl, hl2, hb2, hf2⟩; have L2 := hid hl2; have V2 := hid hb2; have F2 := hid hf2; clear hl2 hb2 hf2)
  obtain ⟨X, hX⟩ : ∃ X, (v2.alloc (.cells #[.int .i64 r, .int .i64 m, .slice p2 n1 c2] 29)).alloc (.cells #[.int .u64 x.id, .int .u32 x.mb, .int .i64 x.sd, .int .i64 x.ty, .int .i64 x.pr, .int .u64 x.qt] 35) = X := ⟨_, rfl⟩
  obtain ⟨δ, hδ⟩ : ∃ d, v2.heap.size = d := ⟨_, rfl⟩
  have BX := hid (show Below v2.heap.size v2 X from by rw [← hX]; exact btr (ball _ _) (ball _ _))
  have hXD : X.heap[δ]? = some (.cells #[.int .i64 r, .int .i64 m, .slice p2 n1 c2] 29 (0, 0)) := by rw [← hX, ← hδ]; exact row_on (World.alloc_heap_new _ _) (ball _ _)
  rw [hX, hδ]
  obtain ⟨f0, f1, f2⟩ := row3 hXD
  have HZX := hid (row_on (row_on HZ.out V1.out) (btr V2.out BX.out))
  have HBX := hid (btr (btr HBW.out V1.out) (btr V2.out BX.out))
  have AS := hid (show (#[.int .i64 0, .int .i64 0, .slice none 0 0] : Array Value).size = (#[.int .i64 r, .int .i64 m, .slice p2 n1 c2] : Array Value).size from rfl)
  have AA := hid (show (#[.int .i64 r, .int .i64 m, .slice p2 n1 c2] : Array Value).all (·.oneCell') = true from by simp [Value.oneCell'])
  have HLX := hid (L2.out.on BX.out)
  clear hX hδ hXD k0 k1 k2 a0 a1 a2 a3 a4 a5
  go_wp2_with (refine wpList_store_row (by rfl) 29 (.tmp 6) (.tmp 29) (by rfl) (R + 1) #[.int .i64 r, .int .i64 m, .slice p2 n1 c2] (by rfl) (by rfl) 29 _ HZX.out infoRc AS.out AA.out ?_)
  refine bodyPost_ret (results_cell_row (fn := Tryz.f43) Tryz.results43 _ _ (R + 1) 29 #[.int .i64 r, .int .i64 m, .slice p2 n1 c2] (0, 0) _ (by rfl) (setRow_heap _ _ _ _ 29 (0, 0) HZX.out) Tryz.underlying29 rfl infoR) rfl ⟨p2, c2, rfl, ?_, ?_, fun g hg => Nat.le_trans (btr HBW.out V1.out).size (F2.out g hg)⟩
  · exact HLX.out.kept (setRow_kp X (R + 1) _) (fun b hb e => by obtain ⟨cu, hcu⟩ := HLX.out.ty hb; exact row_ne hcu HZX.out (by decide) e)
  · exact setRow_below HBX.out (by have := HRR.out; omega)
end Go.Proofs.YtnmkfdndfhefiaaGreat
namespace Go.Proofs.YtnmkfdndfhefiaaGreat
open Go.RowKit Go.Deep Go.Shelf
set_option linter.unusedVariables false
set_option linter.unusedSimpArgs false
set_option maxHeartbeats 16000000
set_option maxRecDepth 100000
theorem less_part (r m : Int) (p : Option Addr) (c : Nat) (L : List It) (i : Nat) (hi : i < L.length) (q : Int) (w : World) (h : Li w p c L) (hk : Lk L) (q0 : 0 < q) (q1 : q < L[i].qt) :
    Calls Tryz.prog 43 #[.agg #[.int .i64 r, .int .i64 m, .slice p L.length c], .int .u64 L[i].id, .int .u64 q] w fun e w' => ∃ p' c', e = .returned (.agg #[.int .i64 r, .int .i64 m, .slice p' L.length c']) ∧ Li w' p' c' (les L[i].id q L) ∧ Below w.heap.size w w' ∧ ∀ g, OfP p' g → w.heap.size ≤ g := by
  obtain ⟨g, hp, _⟩ := h.cells hi
  subst hp
  have CP := hid (fun (U : World) (hU : Below w.heap.size w U) => rplace_any r m L[i].id (some ⟨g, 0, none⟩) c L U (h.on hU) hk.ln)
  obtain ⟨i', hi', e1, e2⟩ := fni_in hk (List.getElem_mem hi)
  have hii : i' = i := by
    have hn := List.pairwise_iff_getElem.1 hk.nd
    rcases Nat.lt_trichotomy i' i with hl | hl | hl
    · have := hn i' i (by simpa using hi') (by simpa using hi) hl
      simp only [List.getElem_map] at this
      exact absurd (by rw [e2]) this
    · exact hl
    · have := hn i i' (by simpa using hi) (by simpa using hi') hl
      simp only [List.getElem_map] at this
      exact absurd (by rw [e2]) this
  rw [e1, hii] at CP
  clear e1 e2 hi' hii
  have HCE := hid (fun (U : World) (hU : Below w.heap.size w U) => (h.on hU).cells hi)
  have HLI := hid (fun (U : World) (hU : Below w.heap.size w U) => h.on hU)
  have HLA := hid (les_at hk hi q)
  have hxk := (hk.ok L[i] (List.getElem_mem hi)).1
  have hq1 := hxk.q1
  obtain ⟨x, hx⟩ : ∃ x, L[i] = x := ⟨_, rfl⟩
  have HX := hid hx
  rw [hx] at CP HCE HLA q1 hq1 ⊢
  obtain ⟨n, hnn⟩ : ∃ n, L.length = n := ⟨_, rfl⟩
  have HNN := hid hnn
  have HI := hid hi
  rw [hnn] at CP ⊢
  have hln : n ≤ 4096 := by rw [← hnn]; exact hk.ln
  have hin : i < n := by rw [← hnn]; exact hi
  obtain ⟨R, hR⟩ : ∃ R, w.heap.size = R := ⟨_, rfl⟩
  obtain ⟨W, hW⟩ : ∃ W, (w.alloc (.cells #[.int .i64 r, .int .i64 m, .slice (some ⟨g, 0, none⟩) n c] 29)).alloc (.cells #[.int .i64 0, .int .i64 0, .slice none 0 0] 29) = W := ⟨_, rfl⟩
  have HBW := hid (show Below w.heap.size w W from by rw [← hW]; exact btr (ball _ _) (ball _ _))
  have HK := hid (show W.heap[R]? = some (.cells #[.int .i64 r, .int .i64 m, .slice (some ⟨g, 0, none⟩) n c] 29 (0, 0)) from by rw [← hW, ← hR]; exact row_on (World.alloc_heap_new _ _) (ball _ _))
  have HZ := hid (show W.heap[R + 1]? = some (.cells #[.int .i64 0, .int .i64 0, .slice none 0 0] 29 (0, 0)) from by
    rw [← hW, ← hR]
    have := World.alloc_heap_new (w.alloc (.cells #[.int .i64 r, .int .i64 m, .slice (some ⟨g, 0, none⟩) n c] 29)) (.cells #[.int .i64 0, .int .i64 0, .slice none 0 0] 29)
    simpa using this)
  have HW := hid hW
  have HRR := hid hR
  obtain ⟨k0, k1, k2⟩ := row3 HK.out
  have CPW := hid (CP.out W HBW.out)
  have i0 : (0 : Int) ≤ (i : Int) := by omega
  have i1 : (i : Int) < (n : Int) := by omega
  have tq : (x.qt == q) = false := by simp; omega
  have ws : IntKind.u64.wrap (x.qt - q) = x.qt - q := by rw [IntKind.wrap_u64]; omega
  clear hW hR h hnn CP hk hx hxk
  go_enter Tryz.func43, Tryz.ntmps43
  go_upto_region 1 with fail
  rw [HW.out, HRR.out]
  go_upto_region 2 with (go_at_call 28; with_reducible refine (CPW.out).mono ?_; rintro e v1 ⟨rfl, hb⟩; have V1 := hid hb; clear hb)
  clear k0 k1 k2
  obtain ⟨k0, k1, k2⟩ := row3 (row_on HK.out V1.out)
  obtain ⟨g', hg, a0, a1, a2, a3, a4, a5⟩ := HCE.out v1 (btr HBW.out V1.out)
  obtain rfl : g = g' := by injection hg with e; injection e
  have sR : R + 1 < v1.heap.size := row_lt (row_on HZ.out V1.out)
  have sR0 : R < v1.heap.size := by omega
  have HLB := hid (show (v1.alloc (.cells #[] 35)).ownsRow 0 35 6 (.slice (some ⟨g, 0, none⟩) n c) n (its L) from by
    have h1 := (HLI.out v1 (btr HBW.out V1.out)).on (ball v1 (.cells #[] 35))
    unfold Li at h1
    rw [HNN.out] at h1
    exact h1)
  clear hg
  go_upto_region 6 with (at_builtin; refine wpList_its (by rfl) (.tmp 30) (.tmp 32) (by rfl) v1.heap.size 0 _ 0 [] (by rfl) (own_none v1) _ n L (by rfl) HLB.out n (by omega) L rfl (by omega) (by simp) ?_; intro pa ca wa HA1 HA2; have VA := hid (bel_app (ball v1 (.cells #[] 35)) (own_none v1) HA2.out); obtain ⟨f0, f1, f2⟩ := row3 (row_on (row_on HK.out V1.out) VA.out); have fz := row_frz (row_on (row_on HK.out V1.out) VA.out) 2)
  have LA := hid (show Li wa pa ca L from by unfold Li; rw [HNN.out]; exact own_base HA1.out (Nat.zero_le _))
  obtain ⟨g2, hg2, _⟩ := LA.out.cells HI.out
  subst hg2
  have G2 := hid (own_ge HA1.out (k := g2) rfl)
  have k := Kp.set wa R 2 (.slice (some ⟨g2, 0, none⟩) n ca)
  have hg2R : g2 ≠ R := by have := G2.out; omega
  obtain ⟨U, hU⟩ : ∃ U, wa.setCell ⟨R, 2, none⟩ (.slice (some ⟨g2, 0, none⟩) n ca) = U := ⟨_, rfl⟩
  rw [hU] at k ⊢
  have LU := hid (LA.out.kept k (fun b hb e => by rw [hb.eq] at e; exact hg2R e))
  have RU := hid (show U.heap[R]? = some (.cells #[.int .i64 r, .int .i64 m, .slice (some ⟨g2, 0, none⟩) n ca] 29 (0, 0)) from by rw [← hU]; exact heap_setCell_same wa R 2 _ _ _ (row_on (row_on HK.out V1.out) VA.out))
  have ZU := hid (k.row (row_on (row_on HZ.out V1.out) VA.out) (by omega))
  have BU := hid (show Below w.heap.size w U from by
    have hbe := btr (btr HBW.out V1.out) VA.out
    exact hbe.trans (k.below hbe.size (fun b hb e => by have := HRR.out; omega)))
  obtain ⟨g', hg', b0, b1, b2, b3, b4, b5⟩ := LU.out.cells HI.out
  obtain rfl : g2 = g' := by injection hg' with e; injection e
  rw [HX.out] at b5
  have fz5 : U.frozen? ⟨g2, i * 6 + 5, none⟩ = false := by obtain ⟨cu, hcu⟩ := LU.out.ty (OfP.mk g2); exact row_frz hcu _
  clear k0 k1 k2 f0 f1 f2 fz a0 a1 a2 a3 a4 a5 hg' b0 b1 b2 b3 b4 HA1 HA2 hU k
  obtain ⟨k0, k1, k2⟩ := row3 RU.out
  go_region
  have LV := hid (LU.out.less HI.out q)
  rw [HX.out, HLA.out] at LV
  have kv := Kp.set U g2 (i * 6 + 5) (.int .u64 (x.qt - q))
  obtain ⟨V, hV⟩ : ∃ V, U.setCell ⟨g2, i * 6 + 5, none⟩ (.int .u64 (x.qt - q)) = V := ⟨_, rfl⟩
  rw [hV] at LV kv ⊢
  have BV := hid (btr (BU.out.trans (kv.below BU.out.size (fun b hb e => by have h1 := G2.out; have h2 := HRR.out; omega))) (bdrew1 V))
  have RV := row_on (kv.row RU.out (fun e => hg2R e.symm)) (bdrew1 V)
  have ZV := hid (row_on (kv.row ZU.out (fun e => by have h1 := G2.out; omega)) (bdrew1 V))
  have LW := hid (LV.out.on (bdrew1 V))
  obtain ⟨Y, hY⟩ : ∃ Y, V.drew = Y := ⟨_, rfl⟩
  rw [hY] at BV RV ZV LW ⊢
  obtain ⟨c0, c1, c2⟩ := row3 RV
  have AS := hid (show (#[.int .i64 0, .int .i64 0, .slice none 0 0] : Array Value).size = (#[.int .i64 r, .int .i64 m, .slice (some ⟨g2, 0, none⟩) n ca] : Array Value).size from rfl)
  have AA := hid (show (#[.int .i64 r, .int .i64 m, .slice (some ⟨g2, 0, none⟩) n ca] : Array Value).all (·.oneCell') = true from by simp [Value.oneCell'])
  clear hY hV RV k0 k1 k2 b5 fz5 kv
  go_wp2_with (refine wpList_store_row (by rfl) 29 (.tmp 6) (.tmp 48) (by rfl) (R + 1) #[.int .i64 r, .int .i64 m, .slice (some ⟨g2, 0, none⟩) n ca] (by rfl) (by rfl) 29 _ ZV.out infoRc AS.out AA.out ?_)
  refine bodyPost_ret (results_cell_row (fn := Tryz.f43) Tryz.results43 _ _ (R + 1) 29 #[.int .i64 r, .int .i64 m, .slice (some ⟨g2, 0, none⟩) n ca] (0, 0) _ (by rfl) (setRow_heap _ _ _ _ 29 (0, 0) ZV.out) Tryz.underlying29 rfl infoR) rfl ⟨some ⟨g2, 0, none⟩, ca, rfl, ?_, ?_, fun g' hg' => by have h0 := OfP.eq hg'; have h1 := G2.out; have h2 := HRR.out; omega⟩
  · exact LW.out.kept (setRow_kp Y (R + 1) _) (fun b hb e => by obtain ⟨cu, hcu⟩ := LW.out.ty hb; exact row_ne hcu ZV.out (by decide) e)
  · exact setRow_below BV.out (by have := HRR.out; omega)
theorem less_any (r m : Int) (p : Option Addr) (c : Nat) (L : List It) (x : It) (hx : x ∈ L) (q : Int) (w : World) (h : Li w p c L) (hk : Lk L) (q0 : 0 < q) (q1 : q ≤ x.qt) :
    Calls Tryz.prog 43 #[.agg #[.int .i64 r, .int .i64 m, .slice p L.length c], .int .u64 x.id, .int .u64 q] w fun e w' => ∃ p' c', e = .returned (.agg #[.int .i64 r, .int .i64 m, .slice p' (lsd x q L).length c']) ∧ Li w' p' c' (lsd x q L) ∧ Below w.heap.size w w' ∧ ∀ g, OfP p' g → w.heap.size ≤ g := by
  obtain ⟨i, hi, rfl⟩ := List.getElem_of_mem hx
  unfold lsd
  by_cases e : L[i].qt = q
  · rw [if_pos e, ← e]
    exact less_gone r m p c L i hi w h hk
  · rw [if_neg e]
    have hl : (les L[i].id q L).length = L.length := by unfold les; rw [List.length_map]
    rw [hl]
    exact less_part r m p c L i hi q w h hk q0 (by omega)
end Go.Proofs.YtnmkfdndfhefiaaGreat
