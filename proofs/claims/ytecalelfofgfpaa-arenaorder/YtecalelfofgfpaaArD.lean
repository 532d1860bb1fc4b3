/-
  ArenaStale: the walk.
-/
import Derived.Test.YtecalelfofgfpaaArC
import Derived.Deep.RegionWith
import Derived.Deep.RegionHeld3
namespace Go.Proofs.Ytecalelfofgfpaa
open Go.RowKit Go.Deep
set_option linter.unusedVariables false
set_option linter.unusedSimpArgs false

/-- handles in memory. -/
def hvs : List (Nat × Nat) → List Value
  | [] => []
  | x :: l => .int .u32 x.1 :: .int .u32 x.2 :: hvs l
theorem hvs_len : ∀ l, (hvs l).length = l.length * 2
  | [] => rfl
  | x :: l => by simp only [hvs, List.length_cons, hvs_len l]; omega
theorem hvs_append : ∀ a b, hvs (a ++ b) = hvs a ++ hvs b
  | [], b => rfl
  | x :: a, b => by simp only [List.cons_append, hvs, hvs_append a b]
theorem hvs_one (l : List (Nat × Nat)) : ∀ u ∈ hvs l, u.oneCell' = true := by
  induction l with
  | nil => intro u hu; simp [hvs] at hu
  | cons x l ih =>
    intro u hu
    simp only [hvs, List.mem_cons] at hu
    rcases hu with rfl | rfl | hu
    · rfl
    · rfl
    · exact ih u hu
theorem hvs_at : ∀ (l : List (Nat × Nat)) (i : Nat) (h : i < l.length), (hvs l)[i * 2]? = some (.int .u32 (l[i]'h).1) ∧ (hvs l)[i * 2 + 1]? = some (.int .u32 (l[i]'h).2)
  | x :: l, 0, h => by simp [hvs]
  | x :: l, i + 1, h => by
    have := hvs_at l i (by simpa using h)
    simp only [hvs, List.getElem_cons_succ]
    rw [show (i + 1) * 2 = i * 2 + 1 + 1 by omega, List.getElem?_cons_succ, List.getElem?_cons_succ, List.getElem?_cons_succ, List.getElem?_cons_succ]
    exact this
/-- handles in a slice of one's own. -/
def OwH (base : Nat) (w : World) (v : Value) (l : List (Nat × Nat)) : Prop := w.ownsRow base 34 2 v l.length (hvs l)
theorem OwH.at {base : Nat} {w : World} {v : Value} {l : List (Nat × Nat)} (h : OwH base w v l) (i : Nat) (hi : i < l.length) :
    ∃ g c, v = .slice (some ⟨g, 0, none⟩) l.length c ∧ g < w.heap.size ∧ w.cell? ⟨g, i * 2, none⟩ = some (.int .u32 l[i].1) ∧ w.cell? ⟨g, i * 2 + 1, none⟩ = some (.int .u32 l[i].2) := by
  rcases h.2 with ⟨_, e⟩ | ⟨g, cap, cur, e, hg0, hg, r⟩
  · omega
  · subst e
    refine ⟨g, cap, rfl, row_lt hg, ?_, ?_⟩
    · rw [World.ownsRow.cellAt h (i * 2) (by omega)]; exact (hvs_at l i hi).1
    · rw [World.ownsRow.cellAt h (i * 2 + 1) (by omega)]; exact (hvs_at l i hi).2
theorem OwH.form {base : Nat} {w : World} {v : Value} {l : List (Nat × Nat)} (h : OwH base w v l) : ∃ p c, v = .slice p l.length c := by
  rcases h.2 with ⟨e, e2⟩ | ⟨g, cap, cur, e, _⟩
  · exact ⟨none, 0, by rw [e2]; exact e⟩
  · exact ⟨_, _, e⟩
theorem info34all : (Try.prog.info? 34).map (fun i => (i.zero, i.size, i.bytes)) = some (some (.agg #[.int .u32 0, .int .u32 0]), 2, 8) := by kernel_rfl
/-- what an append behind one's own slice leaves alone. -/
def Ap (base : Nat) (v : Value) (w w' : World) : Prop := Below base w w' ∧ w.heap.size ≤ w'.heap.size ∧ ∀ k, k < w.heap.size → v.ownBlock ≠ some k → w'.heap[k]? = w.heap[k]?
theorem own_h {ops : Array Oper} {rest : List Oper} {o : Oper} {a : Act} {Q : Exit → Act → World → Prop} (hgd : o.guard = none) (sl x : Operand)
    (ho : o.op = .call { callee := .builtin .append, args := #[sl, x], argTypes := #[29, 29] }) (B : Nat) (v : Value) (l : List (Nat × Nat)) (hs : a.eval sl = v) (w0 : World) (i lf : Nat) (hb0 : OwH B w0 v l) (hx : a.eval x = .slice (some ⟨w0.heap.size, 0, none⟩) 1 1) (hlen : l.length ≤ 2000000) (hB : B ≤ w0.heap.size)
    (h : ∀ v' w', OwH B w' v' (l ++ [(i, lf)]) → Ap B v w0 w' → wpList Try.prog ops Q rest (a.put o.dst v') w') : wpList Try.prog ops Q (o :: rest) a (w0.alloc (.cells #[.int .u32 i, .int .u32 lf] 34)) := by
  obtain ⟨i0, hi, hz0, hz1, hz2⟩ := info_parts info34all
  have hb' : OwH B (w0.alloc (.cells #[.int .u32 i, .int .u32 lf] 34)) v l := own_on hb0 (ball _ _)
  refine wpList_append_own _ hgd sl x 29 ho B 34 i0 _ 2 8 Try.underlying29 hi hz0 hz1 hz2 rfl (by decide) v l.length _ hs hb' ⟨w0.heap.size, 0, none⟩ 1 1 (hvs [(i, lf)]) hx rfl ?_ (hvs_one _) (by unfold maxLen; omega) (by omega) (Nat.le_trans hB (ball w0 _).size) ?_
  · intro j u hj
    rw [add_mid, Nat.zero_add, World.cell?_alloc_new]
    simpa [hvs] using hj
  · intro v' w' ho' hg _
    refine h v' w' ?_ ⟨((ball w0 (.cells #[.int .u32 i, .int .u32 lf] 34)).mono hB).grown hg (Nat.le_trans hB (ball w0 _).size) (fun k hk => (World.ownsRow.lt hb' k hk).1), Nat.le_trans (ball w0 (.cells #[.int .u32 i, .int .u32 lf] 34)).size hg.size, ?_⟩
    · unfold OwH
      rw [hvs_append, List.length_append]
      exact ho'
    · intro k hk hne
      rw [hg.block k (Nat.lt_of_lt_of_le hk (ball w0 _).size) (fun e => hne e.symm)]
      exact (ball w0 _).block k hk
/-- the arena stays when one's own handles grow. -/
theorem Ar.ap {base base' : Nat} {w w' : World} {A : Nat} {s : ArS} (h : Ar base w A s) {v : Value} {l : List (Nat × Nat)} (hv : OwH base' w v l) (k : Ap base' v w w') : Ar base w' A s := by
  have hm : ∀ (x : Nat) (c : Array Value) (t : TypeId), w.heap[x]? = some (.cells c t (0, 0)) → Mine t → w'.heap[x]? = some (.cells c t (0, 0)) := by
    intro x c t hx ht
    rw [k.2.2 x (row_lt hx) ?_]
    · exact hx
    · intro e
      rcases hv.2 with ⟨rfl, _⟩ | ⟨g, cap, cur, rfl, _, hg, _⟩
      · simp [Value.ownBlock] at e
      · simp [Value.ownBlock] at e
        subst e
        rw [hx] at hg
        simp at hg
        exact n34 (hg.2 ▸ ht)
  obtain ⟨h0, ⟨sl, h1, h2⟩, h3, h4⟩ := h
  refine ⟨h0, ⟨sl, hm _ _ _ h1 m91, ?_⟩, h3, fun i hi => ⟨(h4 i hi).1, hm _ _ _ (h4 i hi).2.1 m94, (h4 i hi).2.2⟩⟩
  obtain ⟨r1, r2⟩ := h2
  refine ⟨r1, r2.imp id ?_⟩
  rintro ⟨g', cap, cur, e1, e2, hg', r⟩
  exact ⟨g', cap, cur, e1, e2, hm _ _ _ hg' m89, r⟩

/-- the arena between two rounds: its one place was taken k times. -/
def Inv (room k : Nat) (s : ArS) : Prop := s.room = room ∧ s.tk = 0 ∧ ((k = 0 ∧ s.bs = [] ∧ s.fr = none) ∨ (∃ b, s.bs = [b] ∧ s.fr = some b ∧ s.nd b = ⟨0, k, false, 0, none, false, none, none⟩))
/-- .. and in a round. -/
def Inv2 (room c : Nat) (v : Int) (b : Nat) (s : ArS) : Prop := s.room = room ∧ s.tk = 1 ∧ s.bs = [b] ∧ s.fr = none ∧ s.nd b = ⟨0, c, true, v, none, false, none, none⟩
theorem Inv2.at {room c : Nat} {v : Int} {b : Nat} {s : ArS} (h : Inv2 room c v b s) : s.at 0 c = some b := by
  obtain ⟨h1, h2, h3, h4, h5⟩ := h
  simp [ArS.at, h3, h5]
theorem Inv2.no {room c : Nat} {v : Int} {b : Nat} {s : ArS} (h : Inv2 room c v b s) (l : Nat) (hl : ¬ l = c) : s.at 0 l = none := by
  obtain ⟨h1, h2, h3, h4, h5⟩ := h
  simp [ArS.at, h3, h5]
  exact fun e => hl e.symm
theorem Inv2.len {room c : Nat} {v : Int} {b : Nat} {s : ArS} (h : Inv2 room c v b s) : s.bs.length ≤ 65536 := by
  rw [h.2.2.1]; simp
theorem stale_take {base : Nat} {w : World} {A : Nat} {s : ArS} {room k : Nat} (h : Ar base w A s) (hI : Inv room k s) (h1 : 1 ≤ room) (h2 : room ≤ 65536) (v : Int) (c : Nat) (hc : c = k + 1) (hk : c < 4294967296) :
    Calls Try.prog 15 #[.pointer (some ⟨A, 0, none⟩), .int .i64 v] w fun e w' => ∃ s2 b, e = .returned (.tuple #[.agg #[.int .u32 0, .int .u32 c], .int .i64 0]) ∧ Ar base w' A s2 ∧ Inv2 room c v b s2 ∧ Kp base w w' := by
  subst hc
  obtain ⟨i1, i2, i3⟩ := hI
  refine (take_any h v (by omega) (by omega) ?_ ?_).mono ?_
  · intro b hb
    rcases i3 with ⟨_, _, e⟩ | ⟨b', e1, e2, _⟩
    · rw [e] at hb; simp at hb
    · rw [e2] at hb; simp at hb; subst hb; rw [e1]; simp
  · rcases i3 with ⟨_, e, _⟩ | ⟨b', e1, e2, _⟩
    · rw [e]; simp
    · rw [e1]; simp
  · rintro e w' ⟨b, s1, hsp, hb1, rfl, har, hkp⟩
    have hmod : (k + 1) % 4294967296 = k + 1 := Nat.mod_eq_of_lt hk
    rcases i3 with ⟨e1, e2, e3⟩ | ⟨b', e1, e2, e3⟩
    · rcases hsp with ⟨f1, _⟩ | ⟨f1, f2, f3⟩
      · rw [e3] at f1; simp at f1
      · subst f3
        have en : (s.more b).nd b = ndN 0 := by simp [ArS.more, upd_same, e2]
        subst e1
        refine ⟨_, b, ?_, har, ⟨i1, by simp [ArS.took, ArS.more, i2], by simp [ArS.took, ArS.more, e2], by simp [ArS.took, ArS.more, e3], ?_⟩, hkp⟩
        · rw [en]; simp [ndN]
        · simp only [ArS.took, upd_same, en]; simp [ndN]
    · rcases hsp with ⟨f1, f3⟩ | ⟨f1, _⟩
      · rw [e2] at f1
        simp at f1
        subst f1 f3
        have en : (s.pop b').nd b' = ⟨0, k, false, 0, none, false, none, none⟩ := by simp [ArS.pop, upd_same, e3]
        refine ⟨_, b', ?_, har, ⟨i1, by simp [ArS.took, ArS.pop, i2], by simp [ArS.took, ArS.pop, e1], by simp [ArS.took, ArS.pop, e3], ?_⟩, hkp⟩
        · rw [en]; simp [hmod]
        · simp only [ArS.took, upd_same, en]; simp [hmod]
      · rw [e2] at f1; simp at f1
theorem stale_drop {base : Nat} {w : World} {A : Nat} {s : ArS} {room c b : Nat} {v : Int} (h : Ar base w A s) (hI : Inv2 room c v b s) :
    Calls Try.prog 21 #[.pointer (some ⟨A, 0, none⟩), .agg #[.int .u32 (0 : Nat), .int .u32 c]] w fun e w' => ∃ s2, e = .returned (.int .i64 0) ∧ Ar base w' A s2 ∧ Inv room c s2 ∧ Kp base w w' := by
  have i2 := hI.2.1
  refine (drop_any h hI.len 0 c b hI.at (by rw [hI.2.2.2.2]) (by omega) (by omega)).mono ?_
  rintro e w' ⟨rfl, h1, h2⟩
  refine ⟨_, rfl, h1, ?_, h2⟩
  obtain ⟨j1, j2, j3, j4, j5⟩ := hI
  refine ⟨j1, by simp [ArS.gone, j2], Or.inr ⟨b, by simp [ArS.gone, j3], by simp [ArS.gone], ?_⟩⟩
  simp only [ArS.gone, upd_same, j5, j4]
/-- numbers that came in. -/
def Vs (w : World) (p : Option Addr) (xs : List Int) : Prop := ∀ i (h : i < xs.length), ∃ b o, p = some ⟨b, o, none⟩ ∧ b < w.heap.size ∧ w.cell? ⟨b, o + i, none⟩ = some (.int .i64 xs[i])
/-- the handles that were given out. -/
def olds (k : Nat) : List (Nat × Nat) := (List.range k).map fun j => (0, j + 1)
theorem olds_len (k : Nat) : (olds k).length = k := by simp [olds]
theorem olds_succ (k : Nat) : olds (k + 1) = olds k ++ [(0, k + 1)] := by simp [olds, List.range_succ]
theorem olds_at (k j : Nat) (h : j < (olds k).length) : (olds k)[j] = (0, j + 1) := by simp [olds]

/-- what stands between two rounds. -/
structure StL (W : World) (A room k : Nat) (ov : Value) (w : World) : Prop where
  ar : ∃ s, Ar W.heap.size w A s ∧ Inv room k s
  ow : OwH W.heap.size w ov (olds k)
  bel : Below W.heap.size W w
/-- .. and in a round, the handle in its box. -/
structure StM (W : World) (A room k c : Nat) (x : Int) (ov : Value) (H : Nat) (w : World) : Prop where
  ar : ∃ s b, Ar W.heap.size w A s ∧ Inv2 room c x b s
  ow : OwH W.heap.size w ov (olds k)
  bel : Below W.heap.size W w
  box : w.heap[H]? = some (.cells #[.int .u32 0, .int .u32 c] 34 (0, 0))
  low : W.heap.size ≤ H
theorem StM.on {W : World} {A room k c : Nat} {x : Int} {ov : Value} {H : Nat} {w w' : World} (h : StM W A room k c x ov H w) (hb : Below w.heap.size w w') : StM W A room k c x ov H w' := by
  obtain ⟨⟨s, b, h1, h2⟩, h3, h4, h5, h6⟩ := h
  exact ⟨⟨s, b, h1.on hb, h2⟩, own_on h3 hb, btrB h4 h4.size hb, row_on h5 hb, h6⟩
theorem StM.get {W : World} {A room k c : Nat} {x : Int} {ov : Value} {H : Nat} {w : World} (h : StM W A room k c x ov H w) :
    Calls Try.prog 17 #[.pointer (some ⟨A, 0, none⟩), .agg #[.int .u32 0, .int .u32 c]] w fun e w' => e = .returned (.tuple #[.int .i64 x, .int .i64 0]) ∧ Below w.heap.size w w' := by
  obtain ⟨⟨s, b, h1, h2⟩, _⟩ := h
  refine (get_any h1 h2.len 0 c).mono ?_
  rintro e w' ⟨rfl, h3⟩
  refine ⟨?_, h3⟩
  rw [h2.at]
  simp only [h2.2.2.2.2]
theorem StM.dropOld {W : World} {A room k c : Nat} {x : Int} {ov : Value} {H : Nat} {w : World} (h : StM W A room k c x ov H w) (l : Nat) (hl : ¬ l = c) :
    Calls Try.prog 21 #[.pointer (some ⟨A, 0, none⟩), .agg #[.int .u32 0, .int .u32 l]] w fun e w' => e = .returned (.int .i64 50) ∧ Below w.heap.size w w' := by
  obtain ⟨⟨s, b, h1, h2⟩, _⟩ := h
  exact drop_none h1 h2.len 0 l (h2.no l hl)
theorem StM.setOld {W : World} {A room k c : Nat} {x : Int} {ov : Value} {H : Nat} {w : World} (h : StM W A room k c x ov H w) (l : Nat) (hl : ¬ l = c) (v : Int) :
    Calls Try.prog 22 #[.pointer (some ⟨A, 0, none⟩), .agg #[.int .u32 0, .int .u32 l], .int .i64 v] w fun e w' => e = .returned (.int .i64 50) ∧ Below w.heap.size w w' := by
  obtain ⟨⟨s, b, h1, h2⟩, _⟩ := h
  exact set_none h1 h2.len 0 l v (h2.no l hl)
theorem StL.take {W : World} {A room k : Nat} {ov : Value} {w : World} (h : StL W A room k ov w) (h1 : 1 ≤ room) (h2 : room ≤ 65536) (v : Int) (c : Nat) (hc : c = k + 1) (hk : c < 4294967296) :
    Calls Try.prog 15 #[.pointer (some ⟨A, 0, none⟩), .int .i64 v] w fun e w' => e = .returned (.tuple #[.agg #[.int .u32 0, .int .u32 c], .int .i64 0]) ∧ StM W A room k c v ov w'.heap.size (w'.alloc (.cells #[.int .u32 0, .int .u32 c] 34)) := by
  obtain ⟨⟨s, a1, a2⟩, a3, a4⟩ := h
  refine (stale_take a1 a2 h1 h2 v c hc hk).mono ?_
  rintro e w' ⟨s2, b, rfl, b1, b2, b3⟩
  refine ⟨rfl, ⟨s2, b, b1.on (ball _ _), b2⟩, own_on (b3.own a3 n34) (ball _ _), ?_, heap_alloc_new _ _, ?_⟩
  · exact (a4.trans b3.bel).trans ((ball w' _).mono (Nat.le_trans a4.size b3.size))
  · exact Nat.le_trans a4.size b3.size
/-- behind the drop. -/
structure StN (W : World) (A room k c : Nat) (ov : Value) (H : Nat) (w : World) : Prop where
  ar : ∃ s, Ar W.heap.size w A s ∧ Inv room c s
  ow : OwH W.heap.size w ov (olds k)
  bel : Below W.heap.size W w
  box : w.heap[H]? = some (.cells #[.int .u32 0, .int .u32 c] 34 (0, 0))
theorem StM.drop {W : World} {A room k c : Nat} {x : Int} {ov : Value} {H : Nat} {w : World} (h : StM W A room k c x ov H w) :
    Calls Try.prog 21 #[.pointer (some ⟨A, 0, none⟩), .agg #[.int .u32 0, .int .u32 c]] w fun e w' => e = .returned (.int .i64 0) ∧ StN W A room k c ov H w' := by
  obtain ⟨⟨s, b, h1, h2⟩, h3, h4, h5, h6⟩ := h
  refine (stale_drop h1 h2).mono ?_
  rintro e w' ⟨s2, rfl, b1, b2, b3⟩
  exact ⟨rfl, ⟨s2, b1, b2⟩, b3.own h3 n34, h4.trans b3.bel, b3.blk _ _ _ h5 n34⟩
theorem StN.on {W : World} {A room k c : Nat} {ov : Value} {H : Nat} {w w' : World} (h : StN W A room k c ov H w) (hb : Below w.heap.size w w') : StN W A room k c ov H w' := by
  obtain ⟨⟨s, h1, h2⟩, h3, h4, h5⟩ := h
  exact ⟨⟨s, h1.on hb, h2⟩, own_on h3 hb, btrB h4 h4.size hb, row_on h5 hb⟩
theorem StN.len {W : World} {A room k c : Nat} {ov : Value} {H : Nat} {w : World} (h : StN W A room k c ov H w) :
    Calls Try.prog 19 #[.pointer (some ⟨A, 0, none⟩)] w fun e w' => e = .returned (.int .i64 0) ∧ w' = w := by
  obtain ⟨⟨s, h1, h2⟩, _⟩ := h
  refine (len_any h1).mono ?_
  rintro e w' ⟨rfl, rfl⟩
  exact ⟨by rw [h2.2.1]; rfl, rfl⟩
theorem StN.free {W : World} {A room k c : Nat} {ov : Value} {H : Nat} {w : World} (h : StN W A room k c ov H w) (hr : room ≤ 65536) :
    Calls Try.prog 23 #[.pointer (some ⟨A, 0, none⟩)] w fun e w' => e = .returned (.int .i64 room) ∧ Below w.heap.size w w' := by
  obtain ⟨⟨s, h1, h2⟩, _⟩ := h
  refine (free_any h1 (by rw [h2.2.1]; omega) (by rw [h2.1]; exact hr)).mono ?_
  rintro e w' ⟨rfl, hb⟩
  exact ⟨by rw [h2.2.1, h2.1]; simp, hb⟩

set_option maxHeartbeats 4000000 in
set_option maxRecDepth 100000 in
theorem stale_walk (room : Int) (p : Option Addr) (cap : Nat) (xs : List Int) (W : World) (hV : Vs W p xs) (hn : xs.length ≤ 1048576) :
    Calls Try.prog 5 #[.int .i64 room, .slice p xs.length cap] W fun e w' => e = .returned (.bool true) ∧ Below W.heap.size W w' := by
  by_cases hbad : room < 1 ∨ 65536 < room
  · have NB := hid (new_bad room W hbad)
    by_cases h1 : room < 1
    · clear hbad
      go_enter Try.func5, Try.ntmps5
      go_wp2_with (first | (go_at_call 13; refine (NB.out).mono ?_; rintro e w1 ⟨rfl, rfl⟩))
      go_ret
      exact ⟨rfl, Below.refl _ _⟩
    · have h2 : 65536 < room := by omega
      clear hbad
      go_enter Try.func5, Try.ntmps5
      go_wp2_with (first | (go_at_call 13; refine (NB.out).mono ?_; rintro e w1 ⟨rfl, rfl⟩))
      go_ret
      exact ⟨rfl, Below.refl _ _⟩
  obtain ⟨R, rfl⟩ : ∃ R : Nat, room = R := ⟨room.toNat, by omega⟩
  have r1 : 1 ≤ R := by omega
  have r2 : R ≤ 65536 := by omega
  have i1 : ¬ (R : Int) < 1 := by omega
  have i2 : ¬ 65536 < (R : Int) := by omega
  have NA := hid (new_any R W r1 r2)
  have HV := hid hV
  have HR1 := hid r1
  have HR2 := hid r2
  have HN := hid hn
  clear hV hbad r1 r2 hn
  go_enter Try.func5, Try.ntmps5
  go_wp2_with (first | (go_at_call 13; refine (NA.out).mono ?_; rintro e w1 ⟨rfl, har, hb⟩; have HS := hid (show StL W W.heap.size R 0 (.slice (some ⟨w1.heap.size, 0, none⟩) 0 0) (w1.alloc (.cells #[] 34)) from ⟨⟨_, har.on (ball _ _), rfl, rfl, Or.inl ⟨rfl, rfl, rfl⟩⟩, ⟨rfl, Or.inr ⟨w1.heap.size, 0, #[], rfl, hb.size, heap_alloc_new _ _, Nat.le_refl _, Nat.zero_le _, rfl, rfl⟩⟩, btrB hb hb.size (ball _ _)⟩); clear har hb))
  go_loopw [7, 8] (fun ov iv wr => ∃ k : Nat, k ≤ xs.length ∧ iv = .int .i64 k ∧ Hid (StL W W.heap.size R k ov wr)) (fun _ iv _ => xs.length - (intOf iv).toNat)
  case atStart => exact ⟨0, Nat.zero_le _, rfl, HS⟩
  case round =>
    obtain ⟨k, hk, rfl, HL⟩ := hrel
    clear HS
    by_cases hlt : k < xs.length
    · obtain ⟨c, hc⟩ : ∃ c, c = k + 1 := ⟨_, rfl⟩
      obtain ⟨vb, vo, rfl, hvb, hv⟩ := HV.out k hlt
      obtain ⟨x, hx⟩ : ∃ x, xs[k] = x := ⟨_, rfl⟩
      rw [hx] at hv
      have v0 : wr.cell? ⟨vb, vo + k, none⟩ = some (.int .i64 x) := (HL.out.bel.cell hvb).trans hv
      have i3 : (k : Int) < (xs.length : Int) := by omega
      have i4 : (0 : Int) ≤ (k : Int) := by omega
      have HC := hid hc
      have TA := hid (HL.out.take HR1.out HR2.out x c hc (by have := HN.out; omega))
      have HV1 := hid hv
      have HVB := hid hvb
      have HLT := hid hlt
      clear hc hx hv hvb hlt
      obtain ⟨op, oc, hov⟩ := HL.out.ow.form
      rw [olds_len] at hov
      subst hov
      clear HL
      go_wp2_with (first | (go_at_call 15; refine (TA.out).mono ?_; rintro e w1 ⟨rfl, h1⟩; have H1 := hid h1; have GE := hid (h1.get); clear h1; refine Hid.out ?_))
      refine hid ?_
      go_wp2_with (first | (go_at_call 17; refine (GE.out).mono ?_; rintro e w2 ⟨rfl, hb⟩; have H2 := hid (H1.out.on hb); clear hb; refine Hid.out ?_))
      have v2 : w2.cell? ⟨vb, vo + k, none⟩ = some (.int .i64 x) := (H2.out.bel.cell HVB.out).trans HV1.out
      clear TA GE H1
      refine hid ?_
      go_wp2_with fail
      go_loopw [13] (fun jv wj => ∃ j : Nat, j ≤ k ∧ jv = .int .i64 j ∧ Hid (StM W W.heap.size R k c x (.slice op k oc) w1.heap.size wj)) (fun jv _ => k - (intOf jv).toNat)
      case atStart => exact ⟨0, Nat.zero_le _, rfl, H2⟩
      case round =>
        obtain ⟨j, hj, rfl, HJ⟩ := hrel
        clear H2 v2 v0
        by_cases hjk : j < k
        · obtain ⟨g, cc, eg, hg, q0, q1⟩ := HJ.out.ow.at j (by rw [olds_len]; exact hjk)
          simp only [olds_at] at q0 q1
          obtain ⟨rfl, rfl⟩ : op = some ⟨g, 0, none⟩ ∧ oc = cc := by simp at eg; exact ⟨eg.1, eg.2.2⟩
          obtain ⟨a, ha⟩ : ∃ a, j + 1 = a := ⟨_, rfl⟩
          rw [ha] at q1
          have hac : ¬ a = c := by have := HC.out; omega
          have q2 : ((a : Int) == (c : Int)) = false := by simp; omega
          have b0 : wr.cell? ⟨w1.heap.size, 0, none⟩ = some (.int .u32 0) := row_cell HJ.out.box 0
          have b1 : wr.cell? ⟨w1.heap.size, 1, none⟩ = some (.int .u32 c) := row_cell HJ.out.box 1
          have i5 : (j : Int) < (k : Int) := by omega
          have i6 : (0 : Int) ≤ (j : Int) := by omega
          have DO := hid (show Calls Try.prog 21 #[.pointer (some ⟨W.heap.size, 0, none⟩), .agg #[.int .u32 0, .int .u32 a]] wr.drew fun e w' => e = .returned (.int .i64 50) ∧ Below wr.heap.size wr w' from ((HJ.out.on (w' := wr.drew) (below_drews rfl rfl rfl rfl)).dropOld a hac).mono fun e w' h => ⟨h.1, btr (b := wr.drew) (below_drews rfl rfl rfl rfl) h.2⟩)
          have SO := hid (show ∀ w', Below wr.heap.size wr w' → Calls Try.prog 22 #[.pointer (some ⟨W.heap.size, 0, none⟩), .agg #[.int .u32 0, .int .u32 a], .int .i64 5] w' fun e w2 => e = .returned (.int .i64 50) ∧ Below w'.heap.size w' w2 from fun w' hb => (HJ.out.on hb).setOld a hac 5)
          have HJK := hid hjk
          have HG := hid hg
          have HA := hid ha
          have Q0 := hid q0
          have Q1 := hid q1
          have i9 : (j : Int) < 1048576 := by have := HN.out; have := HLT.out; omega
          have HAC := hid hac
          clear eg hac hjk hg ha
          have KEEP := hid (show ∀ w' : World, Below wr.heap.size wr w' → ((w'.cell? ⟨g, j * 2, none⟩ = some (.int .u32 0) ∧ w'.cell? ⟨g, j * 2 + 1, none⟩ = some (.int .u32 a) ∧ w'.cell? ⟨w1.heap.size, 0, none⟩ = some (.int .u32 0) ∧ w'.cell? ⟨w1.heap.size, 1, none⟩ = some (.int .u32 c)) ∧ Below wr.heap.size wr w') from fun w' hb => ⟨⟨(hb.cell HG.out).trans Q0.out, (hb.cell HG.out).trans Q1.out, (row_cell (row_on HJ.out.box hb) 0), (row_cell (row_on HJ.out.box hb) 1)⟩, hb⟩)
          have DO2 := hid (show ∀ w', Below wr.heap.size wr w' → Calls Try.prog 21 #[.pointer (some ⟨W.heap.size, 0, none⟩), .agg #[.int .u32 0, .int .u32 a]] w' fun e w2 => e = .returned (.int .i64 50) ∧ Below w'.heap.size w' w2 from fun w' hb => (HJ.out.on hb).dropOld a HAC.out)
          clear DO Q0 Q1
          go_wp2
          go_region_held3 (fun w' => (w'.cell? ⟨g, j * 2, none⟩ = some (.int .u32 0) ∧ w'.cell? ⟨g, j * 2 + 1, none⟩ = some (.int .u32 a) ∧ w'.cell? ⟨w1.heap.size, 0, none⟩ = some (.int .u32 0) ∧ w'.cell? ⟨w1.heap.size, 1, none⟩ = some (.int .u32 c)) ∧ Below wr.heap.size wr w')
            (first | exact KEEP.out _ HK5.out | exact KEEP.out _ HK4.out | exact KEEP.out _ (Below.drew (Below.refl _ _)))
            (first
            | (go_at_call 21; refine (DO2.out _ (Below.drew (Below.refl _ _))).mono ?_; rintro e w4 ⟨rfl, hb⟩; have HK4 := hid (btr (b := wr.drew) (Below.drew (Below.refl _ _)) hb); clear hb)
            | (go_at_call 22; refine (SO.out _ HK4.out).mono ?_; rintro e w5 ⟨rfl, hb⟩; have HK5 := hid (btr HK4.out hb); clear hb))
          go_wp2
          go_roundw
          case rel => exact ⟨j + 1, by have := HJK.out; omega, by go_num, hid (HJ.out.on HK5.out)⟩
          case measure => have := HJK.out; simp [intOf]; omega
        · obtain rfl : j = k := by omega
          have HBX := hid HJ.out.box
          have b0 : wr.cell? ⟨w1.heap.size, 0, none⟩ = some (.int .u32 0) := row_cell HJ.out.box 0
          have b1 : wr.cell? ⟨w1.heap.size, 1, none⟩ = some (.int .u32 c) := row_cell HJ.out.box 1
          have GE := hid HJ.out.get
          clear hjk
          go_wp2_with (first | (go_at_call 17; refine (GE.out).mono ?_; rintro e w3 ⟨rfl, hb⟩; have H3 := hid (HJ.out.on hb); clear hb; refine Hid.out ?_))
          have v3 : w3.cell? ⟨vb, vo + j, none⟩ = some (.int .i64 x) := (H3.out.bel.cell HVB.out).trans HV1.out
          have d0 : w3.cell? ⟨w1.heap.size, 0, none⟩ = some (.int .u32 0) := row_cell H3.out.box 0
          have d1 : w3.cell? ⟨w1.heap.size, 1, none⟩ = some (.int .u32 c) := row_cell H3.out.box 1
          have DR := hid H3.out.drop
          clear GE b0 b1 HJ HBX
          refine hid ?_
          go_wp2_with (first | (go_at_call 21; refine (DR.out).mono ?_; rintro e w4 ⟨rfl, h4⟩; have H4 := hid h4; have LE := hid h4.len; have FR := hid (h4.free HR2.out); clear h4; refine Hid.out ?_))
          clear v3 d0 d1 H3 DR
          refine hid ?_
          go_wp2_with (first | (go_at_call 19; refine (LE.out).mono ?_; rintro e w5 ⟨rfl, rfl⟩) | (go_at_call 23; refine (FR.out).mono ?_; rintro e w6 ⟨rfl, hb⟩; have H6 := hid (H4.out.on hb); clear hb; refine Hid.out ?_))
          have d0 : w6.cell? ⟨w1.heap.size, 0, none⟩ = some (.int .u32 0) := row_cell H6.out.box 0
          have d1 : w6.cell? ⟨w1.heap.size, 1, none⟩ = some (.int .u32 c) := row_cell H6.out.box 1
          have i9 : (j : Int) < 1048576 := by have := HN.out; have := HLT.out; omega
          clear H4 LE FR
          refine hid ?_
          go_wp2_with (first | (at_builtin; refine own_h (by rfl) (.tmp 130) (.tmp 132) (by rfl) W.heap.size (.slice op j oc) (olds j) (by rfl) w6 0 c H6.out.ow (by rfl) (by have := HN.out; have := HLT.out; rw [olds_len]; omega) H6.out.bel.size ?_; intro v' w7 ho hap; have H7 := hid (show StL W W.heap.size R c v' w7 from ⟨by obtain ⟨s, a1, a2⟩ := H6.out.ar; exact ⟨s, a1.ap H6.out.ow hap, a2⟩, by rw [HC.out, olds_succ, ← HC.out]; exact ho, H6.out.bel.trans hap.1⟩); clear ho hap; refine Hid.out ?_))
          refine hid ?_
          go_wp2
          go_roundw
          case rel => exact ⟨c, by have := HC.out; have := HLT.out; omega, by rw [HC.out]; simp, H7⟩
          case measure => have := HLT.out; have := HC.out; simp [intOf]; omega
    · obtain rfl : k = xs.length := by omega
      clear hlt
      go_wp2
      go_ret
      exact ⟨rfl, HL.out.bel⟩
end Go.Proofs.Ytecalelfofgfpaa
