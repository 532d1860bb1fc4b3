/-
  Handles that the law keeps: read, appended to, cut; same, without.
-/
import Derived.Test.YtecalelfofgfpaaArT
import Derived.ArgAppend
namespace Go.Proofs.Ytecalelfofgfpaa
open Go.RowKit Go.Deep
set_option linter.unusedVariables false
set_option linter.unusedSimpArgs false

/-- handles that can be read. -/
def Hr (w : World) (p : Option Addr) (l : List (Nat × Nat)) : Prop := ∀ i (h : i < l.length), ∃ g o, p = some ⟨g, o, none⟩ ∧ g < w.heap.size ∧ w.cell? ⟨g, o + i * 2, none⟩ = some (.int .u32 l[i].1) ∧ w.cell? ⟨g, o + i * 2 + 1, none⟩ = some (.int .u32 l[i].2)
theorem Hr.on {w w' : World} {p : Option Addr} {l : List (Nat × Nat)} (h : Hr w p l) (hb : Below w.heap.size w w') : Hr w' p l := fun i hi => by
  obtain ⟨g, o, e, hg, c0, c1⟩ := h i hi
  exact ⟨g, o, e, Nat.lt_of_lt_of_le hg hb.size, (hb.cell hg).trans c0, (hb.cell hg).trans c1⟩
/-- handles in a slice of one's own, from some place on. -/
def Wt (base : Nat) (w : World) (v : Value) (l : List (Nat × Nat)) : Prop :=
  (v = .slice none 0 0 ∧ l = []) ∨ ∃ g o c cur, v = .slice (some ⟨g, o, none⟩) l.length c ∧ base ≤ g ∧ w.heap[g]? = some (.cells cur 34 (0, 0)) ∧ o + c * 2 ≤ cur.size ∧ l.length ≤ c ∧ c ≤ maxLen ∧ Hr w (some ⟨g, o, none⟩) l
theorem Wt.form {base : Nat} {w : World} {v : Value} {l : List (Nat × Nat)} (h : Wt base w v l) : ∃ p c, v = .slice p l.length c ∧ Hr w p l := by
  rcases h with ⟨rfl, rfl⟩ | ⟨g, o, c, cur, e, _, _, _, _, _, h⟩
  · exact ⟨none, 0, rfl, fun i hi => by simp at hi⟩
  · exact ⟨_, c, e, h⟩
theorem OwH.hr {base : Nat} {w : World} {p : Option Addr} {c : Nat} {l : List (Nat × Nat)} (h : OwH base w (.slice p l.length c) l) : Hr w p l := fun i hi => by
  obtain ⟨g, c', e, hg, c0, c1⟩ := h.at i hi
  obtain ⟨rfl, _⟩ : p = some ⟨g, 0, none⟩ ∧ c = c' := by simpa using e
  exact ⟨g, 0, rfl, hg, by rw [Nat.zero_add]; exact c0, by rw [Nat.zero_add]; exact c1⟩
theorem OwH.wt {base : Nat} {w : World} {v : Value} {l : List (Nat × Nat)} (h : OwH base w v l) : Wt base w v l := by
  rcases h.2 with ⟨e, hn⟩ | ⟨g, cap, cur, e, hg0, hg, r1, r2, r3, r4⟩
  · exact Or.inl ⟨e, List.length_eq_zero_iff.1 hn⟩
  · have h' := h
    rw [e] at h'
    exact Or.inr ⟨g, 0, cap, cur, e, hg0, hg, by omega, r1, r2, h'.hr⟩
theorem Wt.keep {base : Nat} {w w' : World} {v : Value} {l : List (Nat × Nat)} (h : Wt base w v l) (hk : ∀ (b : Nat) (c : Array Value), w.heap[b]? = some (.cells c 34 (0, 0)) → w'.heap[b]? = some (.cells c 34 (0, 0))) : Wt base w' v l := by
  rcases h with h | ⟨g, o, c, cur, e, h1, h2, h3, h4, h5, h6⟩
  · exact Or.inl h
  · refine Or.inr ⟨g, o, c, cur, e, h1, hk g cur h2, h3, h4, h5, ?_⟩
    have h2' := hk g cur h2
    intro i hi
    obtain ⟨g', o', e', hg, c0, c1⟩ := h6 i hi
    obtain ⟨rfl, rfl⟩ : g = g' ∧ o = o' := by simpa using e'
    refine ⟨g, o, rfl, row_lt h2', ?_, ?_⟩
    · rw [row_cell h2' _, ← row_cell h2 _]; exact c0
    · rw [row_cell h2' _, ← row_cell h2 _]; exact c1
theorem Wt.on {base : Nat} {w w' : World} {v : Value} {l : List (Nat × Nat)} (h : Wt base w v l) (hb : Below w.heap.size w w') : Wt base w' v l := h.keep (fun b c hc => row_on hc hb)
theorem Wt.kq {base base' : Nat} {w w' : World} {v : Value} {l : List (Nat × Nat)} (h : Wt base w v l) (k : Kq base' w w') : Wt base w' v l := h.keep (fun b c hc => k.blk b c 34 hc n34 (by decide))
theorem Wt.kp {base base' : Nat} {w w' : World} {v : Value} {l : List (Nat × Nat)} (h : Wt base w v l) (k : Kp base' w w') : Wt base w' v l := h.kq k.kq
/-- without the first. -/
theorem Wt.tail {base : Nat} {w : World} {p : Option Addr} {c : Nat} {x : Nat × Nat} {l : List (Nat × Nat)} (h : Wt base w (.slice p (l.length + 1) c) (x :: l)) :
    ∃ g o, p = some ⟨g, o, none⟩ ∧ l.length + 1 ≤ c ∧ (c = 1 → Wt base w (.slice (some ⟨g, o, none⟩) l.length 0) l) ∧ (¬ c = 1 → Wt base w (.slice (some ⟨g, o + 2, none⟩) l.length (c - 1)) l) ∧ w.cell? ⟨g, o, none⟩ = some (.int .u32 x.1) ∧ w.cell? ⟨g, o + 1, none⟩ = some (.int .u32 x.2) ∧ c ≤ maxLen := by
  rcases h with ⟨_, e⟩ | ⟨g, o, c', cur, e, h1, h2, h3, h4, h5, h6⟩
  · simp at e
  · obtain ⟨rfl, rfl⟩ : p = some ⟨g, o, none⟩ ∧ c = c' := by simpa using e
    simp at h4
    obtain ⟨g0, o0, e0, _, d0, d1⟩ := h6 0 (by simp)
    obtain ⟨rfl, rfl⟩ : g = g0 ∧ o = o0 := by simpa using e0
    refine ⟨g, o, rfl, h4, fun hc => ?_, fun hc => ?_, by simpa using d0, by simpa using d1, h5⟩
    · have hl : l = [] := List.length_eq_zero_iff.1 (by omega)
      subst hl
      exact Or.inr ⟨g, o, 0, cur, rfl, h1, h2, by omega, by simp, Nat.zero_le _, fun i hi => by simp at hi⟩
    · refine Or.inr ⟨g, o + 2, c - 1, cur, rfl, h1, h2, by omega, by omega, by omega, ?_⟩
      intro i hi
      obtain ⟨g', o', e', hg, c0, c1⟩ := h6 (i + 1) (by simp; omega)
      obtain ⟨rfl, rfl⟩ : g = g' ∧ o = o' := by simpa using e'
      refine ⟨g, o + 2, rfl, hg, ?_, ?_⟩
      · rw [show o + 2 + i * 2 = o + (i + 1) * 2 by omega]; simpa using c0
      · rw [show o + 2 + i * 2 + 1 = o + (i + 1) * 2 + 1 by omega]; simpa using c1
theorem hr_cells {w : World} {g o : Nat} {l : List (Nat × Nat)} (h : Hr w (some ⟨g, o, none⟩) l) : ∀ j u, (hvs l)[j]? = some u → w.cell? ⟨g, o + j, none⟩ = some u := by
  intro j u hj
  have hjl : j < l.length * 2 := by
    have := (List.getElem?_eq_some_iff.1 hj).1
    rw [hvs_len] at this
    exact this
  obtain ⟨g', o', e', hg, c0, c1⟩ := h (j / 2) (by omega)
  obtain ⟨rfl, rfl⟩ : g = g' ∧ o = o' := by simpa using e'
  obtain ⟨d0, d1⟩ := hvs_at l (j / 2) (by omega)
  rcases Nat.mod_two_eq_zero_or_one j with hm | hm
  · rw [show j / 2 * 2 = j by omega] at c0 d0
    rw [c0, ← d0, hj]
  · rw [show o + j / 2 * 2 + 1 = o + j by omega] at c1
    rw [show j / 2 * 2 + 1 = j by omega] at d1
    rw [c1, ← d1, hj]
theorem own_w {ops : Array Oper} {rest : List Oper} {o : Oper} {a : Act} {Q : Exit → Act → World → Prop} (hgd : o.guard = none) (sl x : Operand)
    (ho : o.op = .call { callee := .builtin .append, args := #[sl, x], argTypes := #[29, 29] }) (B : Nat) (v : Value) (l : List (Nat × Nat)) (hs : a.eval sl = v) (w0 : World) (i lf : Nat) (hb0 : Wt B w0 v l) (hx : a.eval x = .slice (some ⟨w0.heap.size, 0, none⟩) 1 1) (hlen : l.length ≤ 2000000) (hB : B ≤ w0.heap.size)
    (h : ∀ v' w', Wt B w' v' (l ++ [(i, lf)]) → Fx (MT 34) B w0 w' → wpList Try.prog ops Q rest (a.put o.dst v') w') : wpList Try.prog ops Q (o :: rest) a (w0.alloc (.cells #[.int .u32 i, .int .u32 lf] 34)) := by
  rcases hb0 with ⟨rfl, rfl⟩ | ⟨g, off, c, cur, rfl, h1, h2, h3, h4, h5, h6⟩
  · have hn : OwH B w0 (.slice none 0 0) [] := World.ownsRow_nil _ _ _ _
    exact own_h hgd sl x ho B _ [] hs w0 i lf hn hx hlen hB (fun v' w' ho' hap => h v' w' (OwH.wt ho') (hap.fx hn))
  · obtain ⟨i0, hi, hz0, hz1, hz2⟩ := info_parts info34all
    have hbl := ball w0 (.cells #[.int .u32 i, .int .u32 lf] 34)
    have h2' := row_on h2 hbl
    have h6' := h6.on hbl
    refine wpList_append_arg _ hgd sl x 29 ho 34 i0 _ 2 8 Try.underlying29 hi hz0 hz1 hz2 rfl (by decide) g off l.length c (hvs l) hs (hvs_len l) (hr_cells h6') ⟨w0.heap.size, 0, none⟩ 1 1 (hvs [(i, lf)]) hx rfl ?_ (hvs_one _) ?_ (by unfold maxLen; omega) (by omega) ?_ ?_
    · intro j u hj
      rw [add_mid, Nat.zero_add, World.cell?_alloc_new]
      simpa [hvs] using hj
    · intro hr j hj
      rw [show (hvs [(i, lf)]).length = 2 from rfl] at hj
      refine ⟨?_, frozen_of_row _ g _ _ _ h2'⟩
      rw [row_cell h2' _, Array.getElem?_eq_getElem (by omega)]
      rfl
    · intro hr
      have hw : (w0.alloc (.cells #[.int .u32 i, .int .u32 lf] 34)).setCells g (off + l.length * 2) (hvs [(i, lf)]) = ((w0.alloc (.cells #[.int .u32 i, .int .u32 lf] 34)).setCell ⟨g, off + l.length * 2, none⟩ (.int .u32 i)).setCell ⟨g, off + l.length * 2 + 1, none⟩ (.int .u32 lf) := rfl
      rw [hw]
      have e1 := heap_setCell_same _ g (off + l.length * 2) _ 34 (.int .u32 i) h2'
      have e2 := heap_setCell_same _ g (off + l.length * 2 + 1) _ 34 (.int .u32 lf) e1
      refine h _ _ (Or.inr ⟨g, off, c, _, by simp, h1, e2, by simpa using h3, by simp; omega, h5, ?_⟩) ⟨?_, ?_, ?_⟩
      · intro j hj
        refine ⟨g, off, rfl, row_lt e2, ?_, ?_⟩
        · rw [row_cell e2 _]
          by_cases hjl : j < l.length
          · obtain ⟨g', o', e', hg, c0, c1⟩ := h6' j hjl
            obtain ⟨rfl, rfl⟩ : g = g' ∧ off = o' := by simpa using e'
            rw [Array.getElem?_setIfInBounds_ne (by omega), Array.getElem?_setIfInBounds_ne (by omega), ← row_cell h2' _, c0]
            simp [List.getElem_append_left hjl]
          · have hje : j = l.length := by simp at hj; omega
            subst hje
            rw [Array.getElem?_setIfInBounds_ne (by omega), Array.getElem?_setIfInBounds_self_of_lt (by omega)]
            simp
        · rw [row_cell e2 _]
          by_cases hjl : j < l.length
          · obtain ⟨g', o', e', hg, c0, c1⟩ := h6' j hjl
            obtain ⟨rfl, rfl⟩ : g = g' ∧ off = o' := by simpa using e'
            rw [Array.getElem?_setIfInBounds_ne (by omega), Array.getElem?_setIfInBounds_ne (by omega), ← row_cell h2' _, c1]
            simp [List.getElem_append_left hjl]
          · have hje : j = l.length := by simp at hj; omega
            subst hje
            rw [Array.getElem?_setIfInBounds_self_of_lt (by simp; omega)]
            simp
      · exact ((hbl.mono hB).setCell h1 _).setCell h1 _
      · exact Nat.le_trans hbl.size (by simp)
      · intro b o' hb hM
        have hne : b ≠ g := by
          rintro rfl
          rw [h2] at hb
          exact hM ⟨cur, _, (Option.some.inj hb).symm⟩
        rw [heap_setCell_other _ _ _ _ hne, heap_setCell_other _ _ _ _ hne]
        exact row_on hb hbl
    · intro hr v' w' hown hg
      have hown2 : OwH B w' v' (l ++ [(i, lf)]) := by
        unfold OwH
        rw [hvs_append, List.length_append]
        exact own_low hown (Nat.le_trans hB hbl.size)
      refine h v' w' (OwH.wt hown2) ⟨?_, Nat.le_trans hbl.size hg.size, fun b o' hb _ => ?_⟩
      · exact (hbl.mono hB).grown hg (Nat.le_trans hB hbl.size) (fun k hk => by simp at hk)
      · rw [hg.block b (Nat.lt_of_lt_of_le (row_lt hb) hbl.size) (by simp)]
        exact row_on hb hbl
set_option maxHeartbeats 1000000 in
set_option maxRecDepth 100000 in
theorem without_hr {w : World} {p : Option Addr} {c : Nat} {l : List (Nat × Nat)} (h : Hr w p l) (hl : l.length ≤ 65536) (i lf : Nat) :
    Calls Try.prog 27 #[.slice p l.length c, .agg #[.int .u32 i, .int .u32 lf]] w fun e w' => ∃ v', e = .returned v' ∧ OwH w.heap.size w' v' (wout l i lf) ∧ Below w.heap.size w w' := by
  have HH := hid h
  have HL := hid hl
  have i1 : (l.length : Int) ≤ 65536 := by omega
  have HS := hid (show OwH (w.heap.size + 1) ((w.alloc (.cells #[.int .u32 i, .int .u32 lf] 34)).alloc (.cells #[] 34)) (.slice (some ⟨w.heap.size + 1, 0, none⟩) 0 0) (wout (l.take 0) i lf) from ⟨rfl, Or.inr ⟨w.heap.size + 1, 0, #[], rfl, Nat.le_refl _, by rw [show w.heap.size + 1 = (w.alloc (.cells #[.int .u32 i, .int .u32 lf] 34)).heap.size by simp]; exact heap_alloc_new _ _, Nat.le_refl _, Nat.zero_le _, rfl, rfl⟩⟩)
  have HB0 := hid (btr (ball w (.cells #[.int .u32 i, .int .u32 lf] 34)) (ball _ (.cells #[] 34)))
  have HX0 := hid (row_on (heap_alloc_new w (.cells #[.int .u32 i, .int .u32 lf] 34)) (ball _ (.cells #[] 34)))
  clear h hl
  go_enter Try.func27, Try.ntmps27
  go_wp2_with fail
  go_loopw [5, 6] (fun rv jv wr => ∃ j : Nat, j ≤ l.length ∧ jv = .int .i64 j ∧ Hid (OwH (w.heap.size + 1) wr rv (wout (l.take j) i lf)) ∧ Hid (Below w.heap.size w wr) ∧ Hid (wr.heap[w.heap.size]? = some (.cells #[.int .u32 i, .int .u32 lf] 34 (0, 0)))) (fun _ jv _ => l.length - (intOf jv).toNat)
  case atStart => exact ⟨0, Nat.zero_le _, rfl, HS, HB0, HX0⟩
  case round =>
    obtain ⟨j, hj, rfl, HR, HB, HX⟩ := hrel
    clear HS HB0 HX0
    by_cases hlt : j < l.length
    · obtain ⟨g, o0, rfl, hg, q0, q1⟩ := HH.out j hlt
      obtain ⟨a, ha⟩ : ∃ a, l[j].1 = a := ⟨_, rfl⟩
      obtain ⟨b, hb⟩ : ∃ b, l[j].2 = b := ⟨_, rfl⟩
      rw [ha] at q0
      rw [hb] at q1
      have p0 := (HB.out.cell hg).trans q0
      have p1 := (HB.out.cell hg).trans q1
      have x0 : wr.cell? ⟨w.heap.size, 0, none⟩ = some (.int .u32 i) := row_cell HX.out 0
      have x1 : wr.cell? ⟨w.heap.size, 1, none⟩ = some (.int .u32 lf) := row_cell HX.out 1
      have i3 : (j : Int) < (l.length : Int) := by omega
      have i4 : (0 : Int) ≤ (j : Int) := by omega
      have HLT := hid hlt
      by_cases heq : a = i ∧ b = lf
      · obtain ⟨rfl, rfl⟩ := heq
        have HE := hid (wout_take_out l a b j hlt ⟨ha, hb⟩)
        clear q0 q1 ha hb hlt hg
        go_wp2
        go_quiet (fail)
        go_wp2
        go_roundw
        case rel => exact ⟨j + 1, by have := HLT.out; omega, by go_num, by rw [HE.out]; exact HR, hid (btr HB.out (below_drews rfl rfl rfl rfl)), HX⟩
        case measure => have := HLT.out; simp [intOf]; omega
      · have HE := hid (show wout (l.take (j + 1)) i lf = wout (l.take j) i lf ++ [(a, b)] from by rw [wout_take_in l i lf j hlt (by rw [ha, hb]; exact heq), ha, hb])
        by_cases h1 : a = i
        · subst h1
          have q2 : ((b : Int) == (lf : Int)) = false := by simp; omega
          clear heq
          clear q0 q1 ha hb hlt hg
          go_wp2
          go_quiet (fail)
          obtain ⟨rp, rc, hrv⟩ := HR.out.form
          subst hrv
          go_wp2_with (first | (at_builtin; refine own_h (by rfl) (.tmp 20) (.tmp 25) (by rfl) (w.heap.size + 1) _ (wout (l.take j) a lf) (by rfl) _ a b (own_on HR.out (below_drews rfl rfl rfl rfl)) (by rfl) (by have := wout_len (l.take j) a lf; have := HL.out; have := HLT.out; rw [List.length_take] at *; omega) (row_lt (w := wr) HX.out) ?_; intro v' w7 ho hap; have HO := hid ho; have HAP := hid hap; clear ho hap; refine Hid.out ?_))
          have HB7 := hid (HB.out.trans (show Below w.heap.size wr w7 from (show Below (w.heap.size + 1) wr w7 from ⟨HAP.out.1.os, HAP.out.1.tape, HAP.out.1.output, HAP.out.1.size, HAP.out.1.block⟩).mono (Nat.le_succ _)))
          have HX7 := hid (show w7.heap[w.heap.size]? = some (.cells #[.int .u32 a, .int .u32 lf] 34 (0, 0)) from by
            rw [HAP.out.2.2 w.heap.size (row_lt (w := wr) HX.out) (fun e => absurd (World.ownsRow.lt HR.out _ e).1 (Nat.not_succ_le_self _))]; exact HX.out)
          refine hid ?_
          go_wp2
          go_roundw
          case rel => exact ⟨j + 1, by have := HLT.out; omega, by go_num, by rw [HE.out]; exact HO, HB7, HX7⟩
          case measure => have := HLT.out; simp [intOf]; omega
        · have q2 : ((a : Int) == (i : Int)) = false := by simp; omega
          clear heq h1
          clear q0 q1 ha hb hlt hg
          go_wp2
          go_quiet (fail)
          obtain ⟨rp, rc, hrv⟩ := HR.out.form
          subst hrv
          go_wp2_with (first | (at_builtin; refine own_h (by rfl) (.tmp 20) (.tmp 25) (by rfl) (w.heap.size + 1) _ (wout (l.take j) i lf) (by rfl) _ a b (own_on HR.out (below_drews rfl rfl rfl rfl)) (by rfl) (by have := wout_len (l.take j) i lf; have := HL.out; have := HLT.out; rw [List.length_take] at *; omega) (row_lt (w := wr) HX.out) ?_; intro v' w7 ho hap; have HO := hid ho; have HAP := hid hap; clear ho hap; refine Hid.out ?_))
          have HB7 := hid (HB.out.trans (show Below w.heap.size wr w7 from (show Below (w.heap.size + 1) wr w7 from ⟨HAP.out.1.os, HAP.out.1.tape, HAP.out.1.output, HAP.out.1.size, HAP.out.1.block⟩).mono (Nat.le_succ _)))
          have HX7 := hid (show w7.heap[w.heap.size]? = some (.cells #[.int .u32 i, .int .u32 lf] 34 (0, 0)) from by
            rw [HAP.out.2.2 w.heap.size (row_lt (w := wr) HX.out) (fun e => absurd (World.ownsRow.lt HR.out _ e).1 (Nat.not_succ_le_self _))]; exact HX.out)
          refine hid ?_
          go_wp2
          go_roundw
          case rel => exact ⟨j + 1, by have := HLT.out; omega, by go_num, by rw [HE.out]; exact HO, HB7, HX7⟩
          case measure => have := HLT.out; simp [intOf]; omega
    · obtain rfl : j = l.length := by omega
      have HF := hid (show OwH w.heap.size wr _ (wout l i lf) from by have := HR.out; rw [List.take_length] at this; exact own_low this (Nat.le_succ _))
      clear hlt HR
      go_wp2
      go_ret
      exact ⟨_, rfl, HF.out, HB.out⟩
set_option maxHeartbeats 1000000 in
set_option maxRecDepth 100000 in
theorem same_hr {w : World} {p q : Option Addr} {c d : Nat} {l : List (Nat × Nat)} (h1 : Hr w p l) (h2 : Hr w q l) (hl : l.length ≤ 65536) :
    Calls Try.prog 32 #[.slice p l.length c, .slice q l.length d] w fun e w' => e = .returned (.bool true) ∧ Below w.heap.size w w' := by
  have H1 := hid h1
  have H2 := hid h2
  have i1 : (l.length : Int) ≤ 65536 := by omega
  have ne0 : ((l.length : Int) != (l.length : Int)) = false := by simp
  clear h1 h2 hl
  go_enter Try.func32, Try.ntmps32
  go_wp2_with fail
  go_loopw [5] (fun iv wr => ∃ i : Nat, i ≤ l.length ∧ iv = .int .i64 i ∧ Hid (Below w.heap.size w wr)) (fun iv _ => l.length - (intOf iv).toNat)
  case atStart => exact ⟨0, Nat.zero_le _, rfl, hid (Below.refl _ _)⟩
  case round =>
    obtain ⟨i, hi, rfl, HB⟩ := hrel
    by_cases hlt : i < l.length
    · obtain ⟨g, o0, rfl, _, q0, q1⟩ := (H1.out.on HB.out) i hlt
      obtain ⟨g2, o2, rfl, _, r0, r1⟩ := (H2.out.on HB.out) i hlt
      obtain ⟨a, ha⟩ : ∃ a, l[i].1 = a := ⟨_, rfl⟩
      obtain ⟨b, hb⟩ : ∃ b, l[i].2 = b := ⟨_, rfl⟩
      rw [ha] at q0 r0
      rw [hb] at q1 r1
      have i3 : (i : Int) < (l.length : Int) := by omega
      have i4 : (0 : Int) ≤ (i : Int) := by omega
      have HLT := hid hlt
      clear ha hb hlt
      go_wp2
      go_quiet (fail)
      go_wp2
      go_roundw
      case rel => exact ⟨i + 1, by have := HLT.out; omega, by go_num, hid (btr HB.out (below_drews rfl rfl rfl rfl))⟩
      case measure => have := HLT.out; simp [intOf]; omega
    · obtain rfl : i = l.length := by omega
      clear hlt
      go_wp2
      go_ret
      exact ⟨rfl, HB.out⟩
end Go.Proofs.Ytecalelfofgfpaa
