/-
  What the arena's calls leave alone; spare, Take, Get, Set, release, Drop.
-/
import Derived.Test.YtecalelfofgfpaaArA
namespace Go.Proofs.Ytecalelfofgfpaa
open Go.RowKit Go.Deep
set_option linter.unusedVariables false
set_option linter.unusedSimpArgs false

/-- blocks that are the arena's by their types. -/
def Mine (t : TypeId) : Prop := t = 91 ∨ t = 94 ∨ t = 89
def MA (o : Obj) : Prop := ∃ c t fr, o = Obj.cells c t fr ∧ Mine t
/-- what the calls leave alone. -/
structure Kp (base : Nat) (w w' : World) : Prop where
  bel : Below base w w'
  size : w.heap.size ≤ w'.heap.size
  obj : ∀ (b : Nat) (o : Obj), w.heap[b]? = some o → ¬ MA o → w'.heap[b]? = some o
theorem Kp.blk {base : Nat} {w w' : World} (k : Kp base w w') (b : Nat) (c : Array Value) (t : TypeId) (h : w.heap[b]? = some (.cells c t (0, 0))) (ht : ¬ Mine t) : w'.heap[b]? = some (.cells c t (0, 0)) := by
  refine k.obj b _ h ?_
  rintro ⟨c', t', fr, e, hm⟩
  simp at e
  exact ht (e.2.1 ▸ hm)
theorem Kp.refl (base : Nat) (w : World) : Kp base w w := ⟨Below.refl _ _, Nat.le_refl _, fun _ _ h _ => h⟩
theorem Kp.trans {base : Nat} {a b c : World} (h : Kp base a b) (k : Kp base b c) : Kp base a c := ⟨h.bel.trans k.bel, Nat.le_trans h.size k.size, fun x o hx ht => k.obj x o (h.obj x o hx ht) ht⟩
theorem Kp.of {base : Nat} {a b : World} (hB : base ≤ a.heap.size) (k : Below a.heap.size a b) : Kp base a b := ⟨k.mono hB, k.size, fun x o hx _ => row_on hx k⟩
theorem Kp.set {base : Nat} {w : World} {g k : Nat} {c : Array Value} {t : TypeId} (hg : w.heap[g]? = some (.cells c t (0, 0))) (hb : base ≤ g) (ht : Mine t) (v : Value) : Kp base w (w.setCell ⟨g, k, none⟩ v) := by
  refine ⟨(Below.refl _ _).setCell hb _, by simp, ?_⟩
  intro b o h h'
  rw [heap_setCell_other _ _ _ _ (by show b ≠ g; rintro rfl; rw [hg] at h; exact h' ⟨c, t, _, (Option.some.inj h).symm, ht⟩)]
  exact h
theorem m91 : Mine 91 := Or.inl rfl
theorem m94 : Mine 94 := Or.inr (Or.inl rfl)
theorem m89 : Mine 89 := Or.inr (Or.inr rfl)
theorem n34 : ¬ Mine 34 := by unfold Mine; decide
theorem n3 : ¬ Mine 3 := by unfold Mine; decide
/-- one's own slice of other things stays. -/
theorem Kp.own {base base' : Nat} {w w' : World} {e : TypeId} {size : Nat} {v : Value} {n : Nat} {xs : List Value} (k : Kp base' w w') (h : w.ownsRow base e size v n xs) (he : ¬ Mine e) : w'.ownsRow base e size v n xs := by
  obtain ⟨h1, h2⟩ := h
  refine ⟨h1, h2.imp id ?_⟩
  rintro ⟨g, cap, cur, e1, e2, hg, r⟩
  exact ⟨g, cap, cur, e1, e2, k.blk g _ _ hg he, r⟩

def upd (f : Nat → Nd) (b : Nat) (n : Nd) : Nat → Nd := fun x => if x = b then n else f x
theorem upd_same (f : Nat → Nd) (b : Nat) (n : Nd) : upd f b n b = n := by simp [upd]
theorem upd_other (f : Nat → Nd) (b x : Nat) (n : Nd) (h : ¬ x = b) : upd f b n x = f x := by simp [upd, h]
theorem ArS.mem_get {s : ArS} {b : Nat} (h : b ∈ s.bs) : ∃ i, ∃ hi : i < s.bs.length, s.bs[i] = b := List.getElem_of_mem h
theorem Ar.node {base : Nat} {w : World} {A : Nat} {s : ArS} (h : Ar base w A s) {b : Nat} (hb : b ∈ s.bs) : base ≤ b ∧ w.heap[b]? = some (.cells (nrow (s.nd b)) 94 (0, 0)) := by
  obtain ⟨i, hi, rfl⟩ := ArS.mem_get hb
  exact ⟨(h.nds i hi).1, (h.nds i hi).2.1⟩
theorem Ar.ne {base : Nat} {w : World} {A : Nat} {s : ArS} (h : Ar base w A s) {b : Nat} (hb : b ∈ s.bs) : ¬ A = b := by
  rintro rfl
  obtain ⟨sl, h1, _⟩ := h.row
  have := (h.node hb).2
  rw [h1] at this
  simp at this
/-- a node's cell written. -/
theorem Ar.setNode {base : Nat} {w : World} {A : Nat} {s : ArS} (h : Ar base w A s) {b : Nat} (hb : b ∈ s.bs) (k : Nat) (v : Value) (n : Nd) (hn : (nrow (s.nd b)).setIfInBounds k v = nrow n) (hx : n.idx = (s.nd b).idx) :
    Ar base (w.setCell ⟨b, k, none⟩ v) A { s with nd := upd s.nd b n } ∧ Kp base w (w.setCell ⟨b, k, none⟩ v) := by
  have hnb := h.node hb
  have hne := h.ne hb
  obtain ⟨h0, ⟨sl, h1, h2⟩, h3, h4⟩ := h
  refine ⟨⟨h0, ⟨sl, ?_, ?_⟩, h3, ?_⟩, Kp.set hnb.2 hnb.1 m94 _⟩
  · rw [heap_setCell_other _ _ _ _ (by show A ≠ b; exact hne)]; exact h1
  · refine ownsRow_setCell_other h2 ?_ v
    intro e
    rcases h2.2 with ⟨rfl, _⟩ | ⟨g, cap, cur, rfl, hg0, hg, _⟩
    · simp [Value.ownBlock] at e
    · simp [Value.ownBlock] at e
      subst e
      rw [hnb.2] at hg
      simp at hg
  · intro i hi
    obtain ⟨a1, a2, a3⟩ := h4 i hi
    refine ⟨a1, ?_, ?_⟩
    · show (w.setCell ⟨b, k, none⟩ v).heap[s.bs[i]]? = some (.cells (nrow (upd s.nd b n s.bs[i])) 94 (0, 0))
      by_cases hib : s.bs[i] = b
      · rw [hib, upd_same, heap_setCell_same w b k _ 94 v hnb.2, hn]
      · rw [upd_other _ _ _ _ hib, heap_setCell_other _ _ _ _ (by show s.bs[i] ≠ b; exact hib)]; exact a2
    · show (upd s.nd b n s.bs[i]).idx = i
      by_cases hib : s.bs[i] = b
      · rw [hib, upd_same, hx, ← hib]; exact a3
      · rw [upd_other _ _ _ _ hib]; exact a3
/-- the arena's own cell written. -/
theorem Ar.setA {base : Nat} {w : World} {A : Nat} {s : ArS} (h : Ar base w A s) (k : Nat) (v : Value) (s' : ArS) (hs : s'.bs = s.bs ∧ s'.nd = s.nd)
    (hr : ∀ sl, (#[Value.int .i64 s.room, .int .i64 s.tk, sl, pb s.fr] : Array Value).setIfInBounds k v = #[.int .i64 s'.room, .int .i64 s'.tk, sl, pb s'.fr]) :
    Ar base (w.setCell ⟨A, k, none⟩ v) A s' ∧ Kp base w (w.setCell ⟨A, k, none⟩ v) := by
  have hne : ∀ b ∈ s.bs, ¬ b = A := fun b hb e => h.ne hb e.symm
  obtain ⟨h0, ⟨sl, h1, h2⟩, h3, h4⟩ := h
  obtain ⟨e1, e2⟩ := hs
  refine ⟨⟨h0, ⟨sl, ?_, ?_⟩, by rw [e1]; exact h3, ?_⟩, Kp.set h1 h0 m91 _⟩
  · rw [heap_setCell_same w A k _ 91 v h1, hr]
  · rw [e1]
    refine ownsRow_setCell_other h2 ?_ v
    intro e
    rcases h2.2 with ⟨rfl, _⟩ | ⟨g, cap, cur, rfl, hg0, hg, _⟩
    · simp [Value.ownBlock] at e
    · simp [Value.ownBlock] at e
      subst e
      rw [h1] at hg
      simp at hg
  · intro i hi
    have hi' : i < s.bs.length := by rw [← e1]; exact hi
    obtain ⟨a1, a2, a3⟩ := h4 i hi'
    have eb : s'.bs[i] = s.bs[i] := by simp only [e1]
    rw [eb, e2]
    refine ⟨a1, ?_, a3⟩
    rw [heap_setCell_other _ _ _ _ (by show s.bs[i] ≠ A; exact hne _ (List.getElem_mem hi'))]; exact a2

/-- another node is taken from the dropped ones. -/
def ArS.pop (s : ArS) (b : Nat) : ArS := { s with fr := (s.nd b).be, nd := upd s.nd b { s.nd b with be := none } }
set_option maxHeartbeats 400000 in
theorem spare_pop {base : Nat} {w : World} {A : Nat} {s : ArS} (h : Ar base w A s) (b : Nat) (hf : s.fr = some b) (hb : b ∈ s.bs) :
    Calls Try.prog 66 #[.pointer (some ⟨A, 0, none⟩)] w fun e w' => e = .returned (pb (some b)) ∧ Ar base w' A (s.pop b) ∧ Kp base w w' := by
  obtain ⟨a1, k1⟩ := h.setA 3 (pb (s.nd b).be) { s with fr := (s.nd b).be } ⟨rfl, rfl⟩ (fun sl => by simp)
  obtain ⟨a2, k2⟩ := a1.setNode hb 7 (.pointer none) { s.nd b with be := none } (by simp [nrow, pb]) rfl
  have HR := hid (show Ar base _ A (s.pop b) from a2)
  have HK := hid (k1.trans k2)
  clear a1 a2 k1 k2
  have hne := h.ne hb
  have hne2 : ¬ b = A := fun e => hne e.symm
  have hnb := h.node hb
  obtain ⟨h0, ⟨sl, h1, h2⟩, h3, h4⟩ := h
  have c3 : w.cell? ⟨A, 3, none⟩ = some (.pointer (some ⟨b, 0, none⟩)) := by rw [row_cell h1 3]; simp [hf, pb]
  have f3 : w.frozen? ⟨A, 3, none⟩ = false := frozen_of_row w A 3 _ _ h1
  have c7 : w.cell? ⟨b, 7, none⟩ = some (pb (s.nd b).be) := by rw [row_cell hnb.2 7]; simp [nrow]
  have f7 : w.frozen? ⟨b, 7, none⟩ = false := frozen_of_row w b 7 _ _ hnb.2
  clear h1 h2 h3 h4 hnb hf
  cases hbe : (s.nd b).be with
  | none =>
    rw [hbe] at c7 HR HK
    simp only [pb] at c7 HR HK
    clear hbe
    go_enter Try.func66, Try.ntmps66
    go_wp2
    go_ret
    exact ⟨rfl, HR.out, HK.out⟩
  | some d =>
    rw [hbe] at c7 HR HK
    simp only [pb] at c7 HR HK
    clear hbe
    go_enter Try.func66, Try.ntmps66
    go_wp2
    go_ret
    exact ⟨rfl, HR.out, HK.out⟩
theorem info_parts {t : TypeId} {z : Value} {a b : Nat} (h : (Try.prog.info? t).map (fun i => (i.zero, i.size, i.bytes)) = some (some z, a, b)) : ∃ i, Try.prog.info? t = some i ∧ i.zero = some z ∧ i.size = a ∧ i.bytes = b := by
  cases e : Try.prog.info? t with
  | none => rw [e] at h; simp at h
  | some i => rw [e] at h; simp at h; exact ⟨i, rfl, h.1, h.2.1, h.2.2⟩
theorem info89all : (Try.prog.info? 89).map (fun i => (i.zero, i.size, i.bytes)) = some (some (.pointer none), 1, 8) := by kernel_rfl
theorem ptrs_len (bs : List Nat) : (ptrs bs).length = bs.length := by simp [ptrs]
theorem add_mid (b o j : Nat) : (⟨b, o, none⟩ : Addr).add j = ⟨b, o + j, none⟩ := by unfold Addr.add; split <;> simp_all
theorem own_ptr {ops : Array Oper} {rest : List Oper} {o : Oper} {a : Act} {Q : Exit → Act → World → Prop} (hgd : o.guard = none) (sl x : Operand)
    (ho : o.op = .call { callee := .builtin .append, args := #[sl, x], argTypes := #[88, 88] }) (B : Nat) (v : Value) (bs : List Nat) (hs : a.eval sl = v) (w0 : World) (b : Nat) (hb0 : w0.ownsRow B 89 1 v bs.length (ptrs bs)) (hx : a.eval x = .slice (some ⟨w0.heap.size, 0, none⟩) 1 1) (hlen : bs.length ≤ 100000) (hB : B ≤ w0.heap.size)
    (h : ∀ g c w', w'.ownsRow B 89 1 (.slice (some ⟨g, 0, none⟩) (bs.length + 1) c) (bs.length + 1) (ptrs (bs ++ [b])) → (∀ k, k < w0.heap.size → v.ownBlock ≠ some k → w'.heap[k]? = w0.heap[k]?) → Below B w0 w' → w0.heap.size ≤ w'.heap.size → wpList Try.prog ops Q rest (a.put o.dst (.slice (some ⟨g, 0, none⟩) (bs.length + 1) c)) w') : wpList Try.prog ops Q (o :: rest) a (w0.alloc (.cells #[.pointer (some ⟨b, 0, none⟩)] 89)) := by
  obtain ⟨i0, hi, hz0, hz1, hz2⟩ := info_parts info89all
  have hb' : (w0.alloc (.cells #[.pointer (some ⟨b, 0, none⟩)] 89)).ownsRow B 89 1 v bs.length (ptrs bs) := own_on hb0 (ball _ _)
  refine wpList_append_own _ hgd sl x 88 ho B 89 i0 _ 1 8 Try.underlying88 hi hz0 hz1 hz2 rfl (by decide) v bs.length _ hs hb' ⟨w0.heap.size, 0, none⟩ 1 1 (ptrs [b]) hx rfl ?_ (by intro u hu; simp [ptrs, pb] at hu; subst hu; rfl) (by unfold maxLen; omega) (by omega) (Nat.le_trans hB (ball w0 _).size) ?_
  · intro j u hj
    rw [add_mid, Nat.zero_add, World.cell?_alloc_new]
    simpa [ptrs, pb] using hj
  · intro v' w' ho' hg _
    have ho2 : w'.ownsRow B 89 1 v' (bs.length + 1) (ptrs (bs ++ [b])) := by simpa [ptrs] using ho'
    obtain ⟨g, c, rfl⟩ : ∃ g c, v' = .slice (some ⟨g, 0, none⟩) (bs.length + 1) c := by
      rcases ho2.2 with ⟨_, e⟩ | ⟨g, c, _, e, _⟩
      · omega
      · exact ⟨g, c, e⟩
    have hbel : Below B w0 w' := ((ball w0 (.cells #[.pointer (some ⟨b, 0, none⟩)] 89)).mono hB).grown hg (Nat.le_trans hB (ball w0 _).size) (fun k hk => (hb'.lt k hk).1)
    refine h g c w' ho2 ?_ hbel ?_
    · intro k hk hne
      rw [hg.block k (Nat.lt_of_lt_of_le hk (ball w0 _).size) (fun e => hne e.symm)]
      exact (ball w0 _).block k hk
    · exact Nat.le_trans (ball w0 (.cells #[.pointer (some ⟨b, 0, none⟩)] 89)).size hg.size
/-- a place that was never taken. -/
def ndN (i : Nat) : Nd := ⟨i, 0, false, 0, none, false, none, none⟩
def ArS.more (s : ArS) (b : Nat) : ArS := { s with bs := s.bs ++ [b], nd := upd s.nd b (ndN s.bs.length) }
theorem Ar.more {base : Nat} {w w' : World} {A : Nat} {s : ArS} (h : Ar base w A s) (b : Nat) (hb0 : base ≤ b) (hnew : w.heap.size ≤ b) (sl' : Value) (hrow : w'.heap[A]? = some (.cells #[.int .i64 s.room, .int .i64 s.tk, sl', pb s.fr] 91 (0, 0)))
    (hown : w'.ownsRow base 89 1 sl' (s.bs.length + 1) (ptrs (s.bs ++ [b]))) (hN : w'.heap[b]? = some (.cells (nrow (ndN s.bs.length)) 94 (0, 0))) (hold : ∀ x ∈ s.bs, w'.heap[x]? = w.heap[x]?) : Ar base w' A (s.more b) := by
  have hlt : ∀ x ∈ s.bs, x < b := fun x hx => Nat.lt_of_lt_of_le (row_lt (h.node hx).2) hnew
  obtain ⟨h0, ⟨sl, h1, h2⟩, h3, h4⟩ := h
  refine ⟨h0, ⟨sl', hrow, ?_⟩, ?_, ?_⟩
  · show w'.ownsRow base 89 1 sl' (s.bs ++ [b]).length (ptrs (s.bs ++ [b]))
    rw [List.length_append]; exact hown
  · show (s.bs ++ [b]).Nodup
    rw [List.nodup_append]
    exact ⟨h3, by simp, fun x hx y hy => by simp at hy; subst hy; have := hlt x hx; omega⟩
  · intro i hi
    have hi2 : i < (s.bs ++ [b]).length := hi
    show base ≤ (s.bs ++ [b])[i] ∧ w'.heap[(s.bs ++ [b])[i]]? = some (.cells (nrow (upd s.nd b (ndN s.bs.length) (s.bs ++ [b])[i])) 94 (0, 0)) ∧ (upd s.nd b (ndN s.bs.length) (s.bs ++ [b])[i]).idx = i
    by_cases hib : i < s.bs.length
    · rw [List.getElem_append_left hib]
      obtain ⟨a1, a2, a3⟩ := h4 i hib
      have hm := List.getElem_mem hib
      have hne : ¬ s.bs[i] = b := by have := hlt _ hm; omega
      rw [upd_other _ _ _ _ hne, hold _ hm]
      exact ⟨a1, a2, a3⟩
    · have : i = s.bs.length := by simp at hi2; omega
      subst this
      rw [List.getElem_append_right (Nat.le_refl _)]
      simp only [Nat.sub_self, List.getElem_cons_zero]
      rw [upd_same]
      exact ⟨hb0, hN, rfl⟩
set_option maxHeartbeats 1000000 in
set_option maxRecDepth 100000 in
theorem spare_new {base : Nat} {w : World} {A : Nat} {s : ArS} (h : Ar base w A s) (hf : s.fr = none) (hl : s.bs.length ≤ 65536) :
    Calls Try.prog 66 #[.pointer (some ⟨A, 0, none⟩)] w fun e w' => ∃ b, w.heap.size ≤ b ∧ e = .returned (pb (some b)) ∧ Ar base w' A (s.more b) ∧ Kp base w w' := by
  have HA := hid h
  have hB : base ≤ w.heap.size := Nat.le_trans h.low (Nat.le_of_lt (row_lt h.row.choose_spec.1))
  obtain ⟨h0, ⟨sl, h1, h2⟩, h3, h4⟩ := h
  obtain ⟨p, c, rfl⟩ : ∃ p c, sl = .slice p s.bs.length c := by
    rcases h2.2 with ⟨rfl, e⟩ | ⟨g, cap, cur, e, _⟩
    · exact ⟨none, 0, by rw [e]⟩
    · exact ⟨_, _, e⟩
  have c2 : w.cell? ⟨A, 2, none⟩ = some (.slice p s.bs.length c) := row_cell h1 2
  have c3 : w.cell? ⟨A, 3, none⟩ = some (.pointer none) := by rw [row_cell h1 3]; simp [hf, pb]
  have f2 : w.frozen? ⟨A, 2, none⟩ = false := frozen_of_row w A 2 _ _ h1
  have hA : A < w.heap.size := row_lt h1
  have hAne : ¬ A = w.heap.size := by omega
  have e2 : ((s.bs.length : Nat) : Int) ≤ 65536 := by omega
  have e3 : IntKind.u32.wrap ((s.bs.length : Nat) : Int) = (s.bs.length : Int) := by simp [IntKind.wrap, IntKind.bits, IntKind.signed]; omega
  have H1 := hid h1
  have H2 := hid h2
  have HB := hid hB
  have HL := hid hl
  have HM := hid (show ∀ k, (Value.slice p s.bs.length c).ownBlock = some k → w.heap[k]? ≠ w.heap[A]? ∧ (∀ x ∈ s.bs, ¬ x = k) ∧ base ≤ k ∧ Mine 89 ∧ ∃ cur, w.heap[k]? = some (.cells cur 89 (0, 0)) from by
    intro k hk
    rcases h2.2 with ⟨e, _⟩ | ⟨g, cap, cur, e, hg0, hg, _⟩
    · rw [e] at hk; simp [Value.ownBlock] at hk
    · rw [e] at hk
      simp [Value.ownBlock] at hk
      subst hk
      refine ⟨by rw [hg, h1]; simp, ?_, hg0, m89, cur, hg⟩
      rintro x hx rfl
      have := (HA.out.node hx).2
      rw [hg] at this
      simp at this)
  clear h1 h2 h3 h4 hB hl
  go_enter Try.func66, Try.ntmps66
  go_wp2_with (first | (at_builtin; refine own_ptr (by rfl) (.tmp 35) (.tmp 37) (by rfl) base (.slice p s.bs.length c) s.bs (by rfl) (w.alloc (.cells #[.int .u32 s.bs.length, .int .u32 0, .bool false, .int .i64 0, .pointer none, .bool false, .pointer none, .pointer none] 94)) w.heap.size (own_on H2.out (ball _ _)) (by simp [Act.eval, Act.put]) (by have := HL.out; omega) (Nat.le_trans HB.out (ball _ _).size) ?_; intro g c' w' ho hk hbl hsz; have HO := hid ho; have HK := hid hk; have HBL := hid hbl; have HSZ := hid hsz; clear ho hk hbl hsz; refine Hid.out ?_))
  have hrow' : w'.heap[A]? = some (.cells #[.int .i64 s.room, .int .i64 s.tk, .slice p s.bs.length c, pb s.fr] 91 (0, 0)) := by
    rw [HK.out A (Nat.lt_of_lt_of_le hA (ball _ _).size) (fun e => (HM.out A e).1 rfl), (ball w _).block A hA]
    exact H1.out
  have hN' : w'.heap[w.heap.size]? = some (.cells #[.int .u32 s.bs.length, .int .u32 0, .bool false, .int .i64 0, .pointer none, .bool false, .pointer none, .pointer none] 94 (0, 0)) := by
    rw [HK.out w.heap.size (by simp) (fun e => by obtain ⟨_, _, _, _, cur, hc⟩ := HM.out _ e; exact absurd (row_lt hc) (by omega))]
    exact heap_alloc_new _ _
  have c2' : w'.cell? ⟨A, 2, none⟩ = some (.slice p s.bs.length c) := row_cell hrow' 2
  have f2' : w'.frozen? ⟨A, 2, none⟩ = false := frozen_of_row w' A 2 _ _ hrow'
  have hgA : ¬ g = A := by
    intro e
    rcases HO.out.2 with ⟨e1, _⟩ | ⟨g1, cap, cur, e1, _, hg, _⟩
    · simp at e1
    · have : g1 = g := by simp at e1; exact e1.1.symm
      subst this
      rw [e, hrow'] at hg
      simp at hg
  have FIN := hid (show ∀ v, v = Value.slice (some ⟨g, 0, none⟩) (s.bs.length + 1) c' → Ar base (w'.setCell ⟨A, 2, none⟩ v) A (s.more w.heap.size) ∧ Kp base w (w'.setCell ⟨A, 2, none⟩ v) from by
    rintro v rfl
    constructor
    · refine HA.out.more w.heap.size HB.out (Nat.le_refl _) _ ?_ (ownsRow_setCell_other HO.out (by simp [Value.ownBlock]; exact hgA) _) ?_ ?_
      · rw [heap_setCell_same w' A 2 _ 91 _ hrow']; simp
      · rw [heap_setCell_other _ _ _ _ (by show w.heap.size ≠ A; omega)]; exact hN'
      · intro x hx
        have hxl := row_lt (HA.out.node hx).2
        rw [heap_setCell_other _ _ _ _ (by show x ≠ A; exact fun e => HA.out.ne hx e.symm), HK.out x (Nat.lt_of_lt_of_le hxl (ball _ _).size) (fun e => (HM.out x e).2.1 x hx rfl)]
        exact (ball w _).block x hxl
    · refine Kp.trans ?_ (Kp.set hrow' h0 m91 _)
      refine ⟨((ball w _).mono HB.out).trans HBL.out, Nat.le_trans (ball w _).size HSZ.out, ?_⟩
      intro x o hx ht
      have hxl := row_lt hx
      rw [HK.out x (Nat.lt_of_lt_of_le hxl (ball _ _).size) (fun e => by obtain ⟨_, _, _, _, cur, hc⟩ := HM.out _ e; rw [hx] at hc; exact ht ⟨cur, 89, _, Option.some.inj hc, m89⟩), (ball w _).block x hxl]
      exact hx)
  clear hrow' hN' HO HK HBL HSZ HM H1 H2 c2 c3 f2 hgA
  refine hid ?_
  go_wp2
  go_ret
  exact ⟨w.heap.size, Nat.le_refl _, rfl, (FIN.out _ rfl).1, (FIN.out _ rfl).2⟩
end Go.Proofs.Ytecalelfofgfpaa
