/-
  What is left alone, by objects; a map of uint32; a slice of uint32 of one's own; without.
-/
import Derived.Test.YtecalelfofgfpaaArD
import Derived.Maps.OwnOps
import Derived.Maps.OwnSet
import Derived.WalkSmall
namespace Go.Proofs.Ytecalelfofgfpaa
open Go.RowKit Go.Deep Go.Maps
set_option linter.unusedVariables false
set_option linter.unusedSimpArgs false

/-- only objects of the kind M changed. -/
structure Fx (M : Obj → Prop) (base : Nat) (w w' : World) : Prop where
  bel : Below base w w'
  size : w.heap.size ≤ w'.heap.size
  obj : ∀ (b : Nat) (o : Obj), w.heap[b]? = some o → ¬ M o → w'.heap[b]? = some o
theorem Kp.fx {base : Nat} {w w' : World} (h : Kp base w w') : Fx MA base w w' := ⟨h.bel, h.size, h.obj⟩
def MT (t : TypeId) (o : Obj) : Prop := ∃ c fr, o = Obj.cells c t fr
def MM (o : Obj) : Prop := ∃ es cl, o = Obj.map es cl
theorem Fx.of {M : Obj → Prop} {base : Nat} {a b : World} (hB : base ≤ a.heap.size) (k : Below a.heap.size a b) : Fx M base a b := ⟨k.mono hB, k.size, fun x o hx _ => row_on hx k⟩
theorem Fx.own {M : Obj → Prop} {base base' : Nat} {w w' : World} {e : TypeId} {size : Nat} {v : Value} {n : Nat} {xs : List Value} (k : Fx M base' w w') (h : w.ownsRow base e size v n xs) (he : ∀ c, ¬ M (.cells c e (0, 0))) : w'.ownsRow base e size v n xs := by
  obtain ⟨h1, h2⟩ := h
  refine ⟨h1, h2.imp id ?_⟩
  rintro ⟨g, cap, cur, e1, e2, hg, r⟩
  exact ⟨g, cap, cur, e1, e2, k.obj g _ hg (he _), r⟩
theorem Fx.ar {M : Obj → Prop} {base base' : Nat} {w w' : World} {A : Nat} {s : ArS} (k : Fx M base' w w') (h : Ar base w A s) (he : ∀ c t, Mine t → ¬ M (.cells c t (0, 0))) : Ar base w' A s := by
  obtain ⟨h0, ⟨sl, h1, h2⟩, h3, h4⟩ := h
  exact ⟨h0, ⟨sl, k.obj _ _ h1 (he _ _ m91), k.own h2 (fun c => he c _ m89)⟩, h3, fun i hi => ⟨(h4 i hi).1, k.obj _ _ (h4 i hi).2.1 (he _ _ m94), (h4 i hi).2.2⟩⟩
theorem Ap.fx {base : Nat} {w w' : World} {v : Value} {e : TypeId} {size n : Nat} {xs : List Value} (h : Ap base v w w') (hv : w.ownsRow base e size v n xs) : Fx (MT e) base w w' := by
  refine ⟨h.1, h.2.1, fun b o hb ho => ?_⟩
  rw [h.2.2 b (row_lt hb) ?_]
  · exact hb
  · intro e1
    rcases hv.2 with ⟨rfl, _⟩ | ⟨g, cap, cur, rfl, _, hg, _⟩
    · simp [Value.ownBlock] at e1
    · simp [Value.ownBlock] at e1
      subst e1
      rw [hb] at hg
      exact ho ⟨cur, _, Option.some.inj hg⟩
theorem Fx.grown {base : Nat} {w w' : World} {b : Nat} {es : _} {cl : _} (hg : w.grownBy w' (some b)) (hb : w.heap[b]? = some (.map es cl)) (hB : base ≤ b) : Fx MM base w w' := by
  refine ⟨(Below.refl _ _).grown hg (Nat.le_of_lt (Nat.lt_of_le_of_lt hB (row_lt hb))) (fun k hk => by simp at hk; omega), hg.size, fun x o hx ho => ?_⟩
  rw [hg.block x (row_lt hx) ?_]
  · exact hx
  · intro e
    simp at e
    subst e
    rw [hb] at hx
    exact ho ⟨_, _, (Option.some.inj hx).symm⟩

theorem law32 : Keyed Try.prog 32 := int_keyed Try.underlying32
theorem zero32 (w : World) : (zeroValue 32).run Try.prog w = .ok (.int .u32 0) w := by kernel_rfl
theorem wf_u32 {x : Int} (h1 : 0 ≤ x) (h2 : x < 4294967296) : (Lit.int .u32 x).wf = true := by
  simp [Lit.wf, IntKind.min, IntKind.max, IntKind.signed, IntKind.bits]
  omega
/-- block b is a map of at most n entries that holds f (0 where nothing stands). -/
def Fm (w : World) (b n : Nat) (f : Nat → Nat) : Prop :=
  ∃ D : DataW Unit, w.ownsMap Try.prog 32 (plainElem Try.prog 32) b n D ∧ ∀ t : Nat, D.atKey (.int .u32 (t : Int)) (.lit (.int .u32 0)) = .lit (.int .u32 (f t : Int))
theorem Fm.obj {w : World} {b n : Nat} {f : Nat → Nat} (h : Fm w b n f) : ∃ es cl, w.heap[b]? = some (.map es cl) := by
  obtain ⟨D, ⟨es, clock, h1, h2⟩, h3⟩ := h
  exact ⟨_, _, h1⟩
theorem Fm.lt {w : World} {b n : Nat} {f : Nat → Nat} (h : Fm w b n f) : b < w.heap.size := by
  obtain ⟨es, cl, h⟩ := h.obj
  exact row_lt h
theorem Fm.fx {M : Obj → Prop} {base : Nat} {w w' : World} {b n : Nat} {f : Nat → Nat} (h : Fm w b n f) (k : Fx M base w w') (hM : ∀ es cl, ¬ M (.map es cl)) : Fm w' b n f := by
  obtain ⟨D, ⟨es, clock, h1, h2⟩, h3⟩ := h
  exact ⟨D, ⟨es, clock, k.obj _ _ h1 (hM _ _), h2⟩, h3⟩
theorem Fm.on {w w' : World} {b n : Nat} {f : Nat → Nat} (h : Fm w b n f) (hb : Below w.heap.size w w') : Fm w' b n f := h.fx (Fx.of (M := fun _ => False) (base := 0) (Nat.zero_le _) hb) (fun _ _ h => h)
theorem Fm.made (w : World) : Fm (w.alloc (.map #[] 0)) w.heap.size 0 (fun _ => 0) := ⟨.map [], World.ownsMap_made _ _ _ _, fun t => rfl⟩
theorem Fm.look {w : World} {b n : Nat} {f : Nat → Nat} (h : Fm w b n f) (t : Nat) (ht : t < 4294967296) : (Instr.lookup 65 (.map (some b)) (.int .u32 t) false).run Try.prog w = .ok (.int .u32 (f t)) w := by
  obtain ⟨D, h1, h3⟩ := h
  obtain ⟨c, hr, hat, _⟩ := h1.lookup_int law32 Try.underlying65 Try.underlying32 (zero32 w) (keyOf_int_mk Try.underlying32 (wf_u32 (x := t) (by omega) (by omega)))
  rw [h3 t] at hat
  simp only [DataW.lit.injEq, Lit.int.injEq, true_and] at hat
  rw [hr, hat]
def updN (f : Nat → Nat) (t c : Nat) : Nat → Nat := fun s => if s = t then c else f s
theorem Fm.put {w : World} {b n : Nat} {f : Nat → Nat} (h : Fm w b n f) (hn : n < 9223372036854775807) (t c : Nat) (ht : t < 4294967296) (hc : c < 4294967296) :
    ∃ w', (Instr.mapUpdate 65 (.map (some b)) (.int .u32 t) (.int .u32 c)).run Try.prog w = .ok () w' ∧ Fm w' b (n + 1) (updN f t c) ∧ w.grownBy w' (some b) := by
  obtain ⟨D, h1, h3⟩ := h
  obtain ⟨w', hr, h4, h5⟩ := h1.update law32 Try.underlying65 (by unfold maxLen; omega) (keyOf_int_mk Try.underlying32 (wf_u32 (x := t) (by omega) (by omega))) (plainElem_int Try.underlying32 (wf_u32 (x := c) (by omega) (by omega)))
  refine ⟨w', hr, ⟨_, h4, fun s => ?_⟩, h5⟩
  unfold updN
  by_cases e : s = t
  · subst e
    rw [if_pos rfl, atKey_put_same h1.isMap (by simp [WideAt.IsKeyLit])]
  · rw [if_neg e, atKey_put_other (by simp; omega), h3]
theorem wpList_fm_put (w : World) {ops : Array Oper} {rest : List Oper} {o : Oper} {a : Act} {Q : Exit → Act → World → Prop}
    (hg : o.guard = none) (m x v : Operand) (hop : o.op = Op.mapUpdate 65 m x v) (b n : Nat) (f : Nat → Nat) (t c : Nat)
    (hm : a.eval m = .map (some b)) (hx : a.eval x = .int .u32 t) (hv : a.eval v = .int .u32 c) (h : Fm w b n f) (hn : n < 9223372036854775807) (ht : t < 4294967296) (hc : c < 4294967296)
    (base : Nat) (hB : base ≤ b)
    (hK : ∀ w', Fm w' b (n + 1) (updN f t c) → Fx MM base w w' → wpList Try.prog ops Q rest (a.put o.dst undef) w') : wpList Try.prog ops Q (o :: rest) a w := by
  refine wpList_plain hg fun K' hK' => ?_
  obtain ⟨w', hrun, r1, r2⟩ := h.put hn t c ht hc
  obtain ⟨es, cl, hb⟩ := h.obj
  unfold Oper.wp
  simp [execOp, hop, hm, hx, hv, hrun, Result.andThen]
  exact hK' _ _ (hK w' r1 (Fx.grown r2 hb hB))

/-- numbers in a slice of one's own. -/
def uvs (l : List Nat) : List Value := l.map fun (x : Nat) => Value.int .u32 (x : Int)
def OwU (base : Nat) (w : World) (v : Value) (l : List Nat) : Prop := w.ownsRow base 32 1 v l.length (uvs l)
theorem OwU.form {base : Nat} {w : World} {v : Value} {l : List Nat} (h : OwU base w v l) : ∃ p c, v = .slice p l.length c := by
  rcases h.2 with ⟨e, e2⟩ | ⟨g, cap, cur, e, _⟩
  · exact ⟨none, 0, by rw [e2]; exact e⟩
  · exact ⟨_, _, e⟩
theorem OwU.last {base : Nat} {w : World} {v : Value} {l : List Nat} {x : Nat} (h : OwU base w v (l ++ [x])) : ∃ g c, v = .slice (some ⟨g, 0, none⟩) (l.length + 1) c ∧ l.length + 1 ≤ c ∧ w.cell? ⟨g, l.length, none⟩ = some (.int .u32 x) ∧ OwU base w (.slice (some ⟨g, 0, none⟩) l.length c) l := by
  have h' : w.ownsRow base 32 1 v (l.length + 1) (uvs (l ++ [x])) := by unfold OwU at h; rw [List.length_append] at h; exact h
  rcases h'.2 with ⟨_, e⟩ | ⟨g, cap, cur, rfl, hg0, hg, r1, r2, r3, r4⟩
  · omega
  · refine ⟨g, cap, rfl, r1, ?_, ?_⟩
    · rw [World.ownsRow.cellAt h' l.length (by omega)]; simp [uvs]
    · refine ⟨by simp [uvs], Or.inr ⟨g, cap, cur, rfl, hg0, hg, by omega, r2, r3, ?_⟩⟩
      have : uvs l = (uvs (l ++ [x])).take l.length := by simp [uvs]
      rw [this, ← r4, List.take_take]
      congr 1
      omega
theorem info32all : (Try.prog.info? 32).map (fun i => (i.zero, i.size, i.bytes)) = some (some (.int .u32 0), 1, 4) := by kernel_rfl
theorem own_u {ops : Array Oper} {rest : List Oper} {o : Oper} {a : Act} {Q : Exit → Act → World → Prop} (hgd : o.guard = none) (sl x : Operand)
    (ho : o.op = .call { callee := .builtin .append, args := #[sl, x], argTypes := #[66, 66] }) (B : Nat) (v : Value) (l : List Nat) (hs : a.eval sl = v) (w0 : World) (u : Nat) (hb0 : OwU B w0 v l) (hx : a.eval x = .slice (some ⟨w0.heap.size, 0, none⟩) 1 1) (hlen : l.length ≤ 2000000) (hB : B ≤ w0.heap.size)
    (h : ∀ v' w', OwU B w' v' (l ++ [u]) → Ap B v w0 w' → wpList Try.prog ops Q rest (a.put o.dst v') w') : wpList Try.prog ops Q (o :: rest) a (w0.alloc (.cells #[.int .u32 u] 32)) := by
  obtain ⟨i0, hi, hz0, hz1, hz2⟩ := info_parts info32all
  have hb' : OwU B (w0.alloc (.cells #[.int .u32 u] 32)) v l := own_on hb0 (ball _ _)
  refine wpList_append_own _ hgd sl x 66 ho B 32 i0 _ 1 4 Try.underlying66 hi hz0 hz1 hz2 rfl (by decide) v l.length _ hs hb' ⟨w0.heap.size, 0, none⟩ 1 1 (uvs [u]) hx rfl ?_ (by intro y hy; simp [uvs] at hy; subst hy; rfl) (by unfold maxLen; omega) (by omega) (Nat.le_trans hB (ball w0 _).size) ?_
  · intro j y hj
    rw [add_mid, Nat.zero_add, World.cell?_alloc_new]
    simpa [uvs] using hj
  · intro v' w' ho' hg _
    refine h v' w' ?_ ⟨((ball w0 (.cells #[.int .u32 u] 32)).mono hB).grown hg (Nat.le_trans hB (ball w0 _).size) (fun k hk => (World.ownsRow.lt hb' k hk).1), Nat.le_trans (ball w0 (.cells #[.int .u32 u] 32)).size hg.size, ?_⟩
    · unfold OwU
      rw [show uvs (l ++ [u]) = uvs l ++ uvs [u] by simp [uvs], List.length_append]
      exact ho'
    · intro k hk hne
      rw [hg.block k (Nat.lt_of_lt_of_le hk (ball w0 _).size) (fun e => hne e.symm)]
      exact (ball w0 _).block k hk
theorem own_low {base base' : Nat} {w : World} {e : TypeId} {size : Nat} {v : Value} {n : Nat} {xs : List Value} (h : w.ownsRow base e size v n xs) (hb : base' ≤ base) : w.ownsRow base' e size v n xs :=
  ⟨h.1, h.2.imp id fun ⟨g, cap, cur, e1, e2, r⟩ => ⟨g, cap, cur, e1, Nat.le_trans hb e2, r⟩⟩
/-- handles without one. -/
def wout (l : List (Nat × Nat)) (i lf : Nat) : List (Nat × Nat) := l.filter fun x => !(x.1 == i && x.2 == lf)
theorem wout_take_in (l : List (Nat × Nat)) (i lf j : Nat) (hj : j < l.length) (h : ¬ (l[j].1 = i ∧ l[j].2 = lf)) : wout (l.take (j + 1)) i lf = wout (l.take j) i lf ++ [(l[j].1, l[j].2)] := by
  unfold wout
  rw [List.take_add_one, List.getElem?_eq_getElem hj, Option.toList_some, List.filter_append]
  congr 1
  simp only [List.filter_cons, List.filter_nil]
  rw [if_pos]
  simp only [Bool.not_eq_true', Bool.and_eq_false_iff, beq_eq_false_iff_ne]
  by_cases h1 : l[j].1 = i
  · exact Or.inr (fun h2 => h ⟨h1, h2⟩)
  · exact Or.inl h1
theorem wout_take_out (l : List (Nat × Nat)) (i lf j : Nat) (hj : j < l.length) (h : l[j].1 = i ∧ l[j].2 = lf) : wout (l.take (j + 1)) i lf = wout (l.take j) i lf := by
  unfold wout
  rw [List.take_add_one, List.getElem?_eq_getElem hj, Option.toList_some, List.filter_append]
  simp [h.1, h.2]
theorem wout_len (l : List (Nat × Nat)) (i lf : Nat) : (wout l i lf).length ≤ l.length := List.length_filter_le _ _
set_option maxHeartbeats 1000000 in
set_option maxRecDepth 100000 in
theorem without_any {base : Nat} {w : World} {v : Value} {l : List (Nat × Nat)} (h : OwH base w v l) (hl : l.length ≤ 65536) (i lf : Nat) :
    Calls Try.prog 27 #[v, .agg #[.int .u32 i, .int .u32 lf]] w fun e w' => ∃ v', e = .returned v' ∧ OwH w.heap.size w' v' (wout l i lf) ∧ Below w.heap.size w w' := by
  obtain ⟨p, c, rfl⟩ := h.form
  have HH := hid h
  have HL := hid hl
  have i1 : (l.length : Int) ≤ 65536 := by omega
  have HS := hid (show OwH (w.heap.size + 1) ((w.alloc (.cells #[.int .u32 i, .int .u32 lf] 34)).alloc (.cells #[] 34)) (.slice (some ⟨w.heap.size + 1, 0, none⟩) 0 0) (wout (l.take 0) i lf) from ⟨rfl, Or.inr ⟨w.heap.size + 1, 0, #[], rfl, Nat.le_refl _, by rw [show w.heap.size + 1 = (w.alloc (.cells #[.int .u32 i, .int .u32 lf] 34)).heap.size by simp]; exact heap_alloc_new _ _, Nat.le_refl _, Nat.zero_le _, rfl, rfl⟩⟩)
  have HB0 := hid (btr (ball w (.cells #[.int .u32 i, .int .u32 lf] 34)) (ball _ (.cells #[] 34)))
  have HX0 := hid (row_on (heap_alloc_new w (.cells #[.int .u32 i, .int .u32 lf] 34)) (ball _ (.cells #[] 34)))
  clear h hl
  go_enter Try.func27, Try.ntmps27
  go_wp2_with fail
  go_loopw [5, 6] (fun rv jv wr => ∃ j : Nat, j ≤ l.length ∧ jv = .int .i64 j ∧ Hid (OwH (w.heap.size + 1) wr rv (wout (l.take j) i lf)) ∧ Hid (Below w.heap.size w wr) ∧ Hid (wr.heap[w.heap.size]? = some (.cells #[.int .u32 i, .int .u32 lf] 34 (0, 0)))) (fun _ jv _ => l.length - (intOf jv).toNat)
  case atStart => exact ⟨0, Nat.zero_le _, rfl, HS, HB0, HX0⟩
  case round =>
    obtain ⟨j, hj, rfl, HR, HB, HX⟩ := hrel
    clear HS HB0 HX0
    by_cases hlt : j < l.length
    · obtain ⟨g, c', e1, hg, q0, q1⟩ := HH.out.at j hlt
      obtain ⟨rfl, rfl⟩ : p = some ⟨g, 0, none⟩ ∧ c = c' := by simpa using e1
      obtain ⟨a, ha⟩ : ∃ a, l[j].1 = a := ⟨_, rfl⟩
      obtain ⟨b, hb⟩ : ∃ b, l[j].2 = b := ⟨_, rfl⟩
      rw [ha] at q0
      rw [hb] at q1
      have p0 := (HB.out.cell hg).trans q0
      have p1 := (HB.out.cell hg).trans q1
      have x0 : wr.cell? ⟨w.heap.size, 0, none⟩ = some (.int .u32 i) := row_cell HX.out 0
      have x1 : wr.cell? ⟨w.heap.size, 1, none⟩ = some (.int .u32 lf) := row_cell HX.out 1
      have i3 : (j : Int) < (l.length : Int) := by omega
      have i4 : (0 : Int) ≤ (j : Int) := by omega
      have HLT := hid hlt
      by_cases heq : a = i ∧ b = lf
      · obtain ⟨rfl, rfl⟩ := heq
        have HE := hid (wout_take_out l a b j hlt ⟨ha, hb⟩)
        clear e1 q0 q1 ha hb hlt hg
        go_wp2
        go_quiet (fail)
        go_wp2
        go_roundw
        case rel => exact ⟨j + 1, by have := HLT.out; omega, by go_num, by rw [HE.out]; exact HR, hid (btr HB.out (below_drews rfl rfl rfl rfl)), HX⟩
        case measure => have := HLT.out; simp [intOf]; omega
      · have HE := hid (show wout (l.take (j + 1)) i lf = wout (l.take j) i lf ++ [(a, b)] from by rw [wout_take_in l i lf j hlt (by rw [ha, hb]; exact heq), ha, hb])
        by_cases h1 : a = i
        · subst h1
          have q2 : ((b : Int) == (lf : Int)) = false := by simp; omega
          clear heq
          clear e1 q0 q1 ha hb hlt hg
          go_wp2
          go_quiet (fail)
          obtain ⟨rp, rc, hrv⟩ := HR.out.form
          subst hrv
          go_wp2_with (first | (at_builtin; refine own_h (by rfl) (.tmp 20) (.tmp 25) (by rfl) (w.heap.size + 1) _ (wout (l.take j) a lf) (by rfl) _ a b (own_on HR.out (below_drews rfl rfl rfl rfl)) (by rfl) (by have := wout_len (l.take j) a lf; have := HL.out; have := HLT.out; rw [List.length_take] at *; omega) (row_lt (w := wr) HX.out) ?_; intro v' w7 ho hap; have HO := hid ho; have HAP := hid hap; clear ho hap; refine Hid.out ?_))
          have HB7 := hid (HB.out.trans (show Below w.heap.size wr w7 from (show Below (w.heap.size + 1) wr w7 from ⟨HAP.out.1.os, HAP.out.1.tape, HAP.out.1.output, HAP.out.1.size, HAP.out.1.block⟩).mono (Nat.le_succ _)))
          have HX7 := hid (show w7.heap[w.heap.size]? = some (.cells #[.int .u32 a, .int .u32 lf] 34 (0, 0)) from by
            rw [HAP.out.2.2 w.heap.size (row_lt (w := wr) HX.out) (fun e => absurd (World.ownsRow.lt HR.out _ e).1 (Nat.not_succ_le_self _))]; exact HX.out)
          refine hid ?_
          go_wp2
          go_roundw
          case rel => exact ⟨j + 1, by have := HLT.out; omega, by go_num, by rw [HE.out]; exact HO, HB7, HX7⟩
          case measure => have := HLT.out; simp [intOf]; omega
        · have q2 : ((a : Int) == (i : Int)) = false := by simp; omega
          clear heq h1
          clear e1 q0 q1 ha hb hlt hg
          go_wp2
          go_quiet (fail)
          obtain ⟨rp, rc, hrv⟩ := HR.out.form
          subst hrv
          go_wp2_with (first | (at_builtin; refine own_h (by rfl) (.tmp 20) (.tmp 25) (by rfl) (w.heap.size + 1) _ (wout (l.take j) i lf) (by rfl) _ a b (own_on HR.out (below_drews rfl rfl rfl rfl)) (by rfl) (by have := wout_len (l.take j) i lf; have := HL.out; have := HLT.out; rw [List.length_take] at *; omega) (row_lt (w := wr) HX.out) ?_; intro v' w7 ho hap; have HO := hid ho; have HAP := hid hap; clear ho hap; refine Hid.out ?_))
          have HB7 := hid (HB.out.trans (show Below w.heap.size wr w7 from (show Below (w.heap.size + 1) wr w7 from ⟨HAP.out.1.os, HAP.out.1.tape, HAP.out.1.output, HAP.out.1.size, HAP.out.1.block⟩).mono (Nat.le_succ _)))
          have HX7 := hid (show w7.heap[w.heap.size]? = some (.cells #[.int .u32 i, .int .u32 lf] 34 (0, 0)) from by
            rw [HAP.out.2.2 w.heap.size (row_lt (w := wr) HX.out) (fun e => absurd (World.ownsRow.lt HR.out _ e).1 (Nat.not_succ_le_self _))]; exact HX.out)
          refine hid ?_
          go_wp2
          go_roundw
          case rel => exact ⟨j + 1, by have := HLT.out; omega, by go_num, by rw [HE.out]; exact HO, HB7, HX7⟩
          case measure => have := HLT.out; simp [intOf]; omega
    · obtain rfl : j = l.length := by omega
      have HF := hid (show OwH w.heap.size wr _ (wout l i lf) from by have := HR.out; rw [List.take_length] at this; exact own_low this (Nat.le_succ _))
      clear hlt HR
      go_wp2
      go_ret
      exact ⟨_, rfl, HF.out, HB.out⟩
end Go.Proofs.Ytecalelfofgfpaa
