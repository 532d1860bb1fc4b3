/-
  Pieces that came in; bytes and what was told, laid behind; what is told so far.
-/
import Derived.Test.YtniofmaefonkdaaDoorWpA
namespace Go.Proofs.YtniofmaefonkdaaDoor
open Go.RowKit Go.Deep Crc
set_option linter.unusedVariables false
set_option linter.unusedSimpArgs false
set_option maxRecDepth 100000
/-- a piece: nil and empty, or its bytes. -/
def Pc (w : World) (p : Option Addr) (xs : List Nat) : Prop :=
  (xs = [] ∧ p = none) ∨ ∃ ad, p = some ad ∧ ∀ j v, (bv xs)[j]? = some v → w.cell? (ad.add j) = some v
theorem Pc.to {w w' : World} {p : Option Addr} {xs : List Nat} (h : Pc w p xs) (hb : Below w.heap.size w w') : Pc w' p xs := by
  rcases h with h | ⟨ad, e, h⟩
  · exact Or.inl h
  · exact Or.inr ⟨ad, e, fun j v hj => (hb.cell (block_lt_of_cell (h j v hj))).trans (h j v hj)⟩
/-- pieces that came in. -/
def Pcs (w : World) (p : Option Addr) (PS : List (List Nat)) : Prop :=
  ∀ i (h : i < PS.length), ∃ b o, p = some ⟨b, o, none⟩ ∧ ∃ q c, w.cell? ⟨b, o + i, none⟩ = some (.slice q PS[i].length c) ∧ (q = none → c = 0) ∧ Pc w q PS[i]
/-- yes and no that came in. -/
def Aks (w : World) (p : Option Addr) (l : List Bool) : Prop := ∀ i (h : i < l.length), ∃ b o, p = some ⟨b, o, none⟩ ∧ w.cell? ⟨b, o + i, none⟩ = some (.bool l[i])
def tot (PS : List (List Nat)) : Nat := (PS.map List.length).sum
def catp (PS : List (List Nat)) (i : Nat) : List Nat := (PS.take i).flatten
theorem catp_succ (PS : List (List Nat)) (i : Nat) (h : i < PS.length) : catp PS (i + 1) = catp PS i ++ PS[i] := by
  unfold catp
  rw [List.take_succ_eq_append_getElem h]
  simp only [List.flatten_append, List.flatten_cons, List.flatten_nil, List.append_nil]
theorem catp_len (PS : List (List Nat)) (i : Nat) : (catp PS i).length ≤ tot PS := by
  unfold catp tot
  rw [List.length_flatten]
  have e : (PS.map List.length).sum = ((PS.take i).map List.length).sum + ((PS.drop i).map List.length).sum := by
    rw [← List.sum_append, ← List.map_append, List.take_append_drop]
  omega
theorem own_form {base : Nat} {w : World} {e : TypeId} {size n : Nat} {v : Value} {xs : List Value} (h : w.ownsRow base e size v n xs) : ∃ p c, v = .slice p n c := by
  obtain ⟨_, ⟨e, rfl⟩ | ⟨g', c', cur, e, _⟩⟩ := h
  · exact ⟨_, _, e⟩
  · exact ⟨_, _, e⟩
theorem wpList_appZ (w : World) {ops : Array Oper} {rest : List Oper} {o : Oper} {a : Act} {Q : Exit → Act → World → Prop} (hgd : o.guard = none) (s x : Operand)
    (ho : o.op = .call { callee := .builtin .append, args := #[s, x], argTypes := #[22, 22] }) (base : Nat) (v : Value) (zs : List Nat) (hs : a.eval s = v) (hown : w.ownsRow base 5 1 v zs.length (bv zs))
    (p : Option Addr) (c : Nat) (xs : List Nat) (hx : a.eval x = .slice p xs.length c) (hc : p = none → c = 0) (hp : Pc w p xs) (hn : zs.length + xs.length ≤ 140737488355328) (hbase : base ≤ w.heap.size)
    (h : ∀ p' c' w', w'.ownsRow base 5 1 (.slice p' (zs ++ xs).length c') (zs ++ xs).length (bv (zs ++ xs)) → w.grownBy w' v.ownBlock → ((Value.slice p' (zs ++ xs).length c').ownBlock = v.ownBlock ∨ (Value.slice p' (zs ++ xs).length c').ownBlock = some w.heap.size) → wpList Tryd.prog ops Q rest (a.put o.dst (.slice p' (zs ++ xs).length c')) w') : wpList Tryd.prog ops Q (o :: rest) a w := by
  obtain ⟨i0, hi, hz0, hz1, hz2⟩ := info_parts info5all
  refine wpList_plain hgd fun K hK' => ?_
  rcases hp with ⟨rfl, rfl⟩ | ⟨ad, rfl, hcell⟩
  · obtain rfl := hc rfl
    have hrun := run_append_owned_none (P := Tryd.prog) (w := w) base 22 o.type 5 i0 1 Tryd.underlying22 hi _ zs.length _ hown
    have hk : K (a.put o.dst v) w := by
      obtain ⟨p', c', hv⟩ := own_form hown
      subst hv
      have := h p' c' w (by simpa using hown) (World.grownBy.refl _ _) (.inl (by simp [Value.ownBlock]))
      rw [List.append_nil] at this
      exact hK' _ _ this
    unfold Oper.wp
    simp [execOp, ho, resolve, invoke, builtin, hs, hx, hrun, Result.andThen]
    exact hk
  · obtain ⟨v', w', hr, h1, h2, h3, h5⟩ := run_append_own_at (P := Tryd.prog) w base 22 o.type 5 i0 (.int .u8 0) 1 1 Tryd.underlying22 hi hz0 hz1 hz2 rfl (by decide) v zs.length (bv zs) hown ad xs.length c (bv xs) (by simp [bv_len]) hcell (bv_one _) (by unfold maxLen; omega) (by omega) hbase
    rw [← bv_append, ← List.length_append] at h1
    obtain ⟨p', c', hv⟩ := own_form h1
    subst hv
    have hK := hK' _ _ (h p' c' w' h1 h2 h5)
    unfold Oper.wp execOp
    simp only [ho, resolve, invoke, builtin, Sem.run_bind, Sem.run_pure, Result.andThen_ok, List.map_toArray, List.map_cons, List.map_nil, hs, hx, hr]
    exact hK
theorem own_empty {base : Nat} {w : World} {g : Nat} (hb : base ≤ g) (h : w.heap[g]? = some (.cells #[] 5 (0, 0))) : w.ownsRow base 5 1 (.slice (some ⟨g, 0, none⟩) 0 0) ([] : List Nat).length (bv []) :=
  ⟨rfl, .inr ⟨g, 0, #[], rfl, hb, h, Nat.le_refl _, Nat.zero_le _, rfl, rfl⟩⟩
theorem wpList_append_pc (w : World) {ops : Array Oper} {rest : List Oper} {o : Oper} {a : Act} {Q : Exit → Act → World → Prop} (hgd : o.guard = none) (s x : Operand)
    (ho : o.op = .call { callee := .builtin .append, args := #[s, x], argTypes := #[22, 22] }) (base : Nat) (g : Nat) (hs : a.eval s = .slice (some ⟨g, 0, none⟩) 0 0) (hown : w.ownsRow base 5 1 (.slice (some ⟨g, 0, none⟩) 0 0) 0 [])
    (p : Option Addr) (c : Nat) (xs : List Nat) (hx : a.eval x = .slice p xs.length c) (hc : p = none → c = 0) (hp : Pc w p xs) (hn : xs.length ≤ 140737488355328) (hbase : base ≤ w.heap.size)
    (h : ∀ g' c' w', w'.ownsRow base 5 1 (.slice (some ⟨g', 0, none⟩) xs.length c') xs.length (bv xs) → Below base w w' → wpList Tryd.prog ops Q rest (a.put o.dst (.slice (some ⟨g', 0, none⟩) xs.length c')) w') : wpList Tryd.prog ops Q (o :: rest) a w := by
  obtain ⟨i0, hi, hz0, hz1, hz2⟩ := info_parts info5all
  rcases hp with ⟨rfl, rfl⟩ | ⟨ad, rfl, hcell⟩
  · obtain rfl := hc rfl
    exact wpList_append_own_none hgd s x 22 ho base 5 i0 1 Tryd.underlying22 hi _ 0 [] hs hown hx (by rw [hs] at *; exact h g 0 w (by simpa [bv] using hown) (Below.refl _ _))
  · refine wpList_append_own w hgd s x 22 ho base 5 i0 (.int .u8 0) 1 1 Tryd.underlying22 hi hz0 hz1 hz2 rfl (by decide) _ 0 [] hs hown ad xs.length c (bv xs) hx (by simp [bv_len]) hcell (bv_one _) (by unfold maxLen; omega) (by omega) hbase ?_
    intro v' w' h1 h2 h3
    rw [Nat.zero_add, List.nil_append] at h1
    have hb : Below base w w' := (Below.refl base w).grown h2 hbase (fun j hj => (hown.lt j hj).1)
    rcases h1.2 with ⟨rfl, _⟩ | ⟨g', c', cur, rfl, _⟩
    · exact absurd (h3.1 rfl).1 (by simp)
    · exact h g' c' w' h1 hb

/-- what was told is laid behind. -/
theorem wpList_appW (w : World) {ops : Array Oper} {rest : List Oper} {o : Oper} {a : Act} {Q : Exit → Act → World → Prop} (hgd : o.guard = none) (s x : Operand)
    (ho : o.op = .call { callee := .builtin .append, args := #[s, x], argTypes := #[60, 60] }) (base : Nat) (v : Value) (vs : List (Value × Int)) (hs : a.eval s = v) (hown : OwW base w v vs)
    (g : Nat) (e : Value × Int) (hx : a.eval x = .slice (some ⟨g, 0, none⟩) 1 1) (h9 : (pw e).length = 9) (h1 : ∀ u ∈ pw e, u.oneCell' = true) (hc : ∀ j u, (pw e)[j]? = some u → w.cell? ⟨g, j, none⟩ = some u) (hn : vs.length ≤ 1099511627776) (hbase : base ≤ w.heap.size)
    (h : ∀ p' c' w', OwW base w' (.slice p' (vs ++ [e]).length c') (vs ++ [e]) → w.grownBy w' v.ownBlock → wpList Tryd.prog ops Q rest (a.put o.dst (.slice p' (vs ++ [e]).length c')) w') : wpList Tryd.prog ops Q (o :: rest) a w := by
  obtain ⟨i0, hi, hz0, hz1, hz2⟩ := info_parts info61all
  refine wpList_append_own w hgd s x 60 ho base 65 i0 (.agg #[.int .u8 0, .int .u64 0, .int .u64 0, .int .u64 0, .int .u64 0, .int .u64 0, .int .u64 0, .int .u64 0, .int .i64 0]) 9 72 Tryd.underlying60 hi hz0 hz1 hz2 rfl (by decide) v vs.length (pws vs) hs hown ⟨g, 0, none⟩ 1 1 (pw e) hx (by rw [h9]) (fun j u hj => by rw [Addr.add_mid, Nat.zero_add]; exact hc j u hj) h1 (by unfold maxLen; omega) (by omega) hbase ?_
  intro v' w' k1 k2 k3
  have k4 : OwW base w' v' (vs ++ [e]) := by
    unfold OwW
    rw [pws_append, List.length_append]
    simpa [pws] using k1
  obtain ⟨p', c', hv⟩ := own_form k4
  subst hv
  exact h p' c' w' k4 k2
/-- what is told so far, and what is still held. -/
structure Pj (cat ys : List Nat) (vs : List (Value × Int)) (j : Nat) : Prop where
  le : 64 * j ≤ cat.length
  ys : ys = cat.drop (64 * j)
  tl : Tl (chs (cat.take (64 * j))) vs
theorem Pj.nil : Pj [] [] [] 0 := ⟨Nat.zero_le _, rfl, by simp [chs_nil, Tl]⟩
theorem Pj.len {cat ys : List Nat} {vs : List (Value × Int)} {j : Nat} (h : Pj cat ys vs j) : vs.length = j := by
  have := h.tl.len
  rw [chs_len j _ (by rw [List.length_take]; have := h.le; omega)] at this
  exact this.symm
theorem Pj.feed {cat ys : List Nat} {vs : List (Value × Int)} {j : Nat} (h : Pj cat ys vs j) (xs : List Nat) : Pj (cat ++ xs) (ys ++ xs) vs j := by
  refine ⟨by have := h.le; rw [List.length_append]; omega, ?_, ?_⟩
  · rw [List.drop_append_of_le_length h.le, h.ys]
  · rw [List.take_append_of_le_length h.le]; exact h.tl
theorem Pj.next {cat ys : List Nat} {vs : List (Value × Int)} {j : Nat} (h : Pj cat ys vs j) (hl : 64 ≤ ys.length) {V : Value} {E : Int} (hU : UnpR (ys.take 64) V E) : Pj cat (ys.drop 64) (vs ++ [(V, E)]) (j + 1) := by
  have hy : ys.length = cat.length - 64 * j := by rw [h.ys, List.length_drop]
  have hle := h.le
  refine ⟨by omega, ?_, ?_⟩
  · rw [h.ys, List.drop_drop]; congr 1
  · have e : cat.take (64 * (j + 1)) = cat.take (64 * j) ++ ys.take 64 := by
      rw [h.ys, show 64 * (j + 1) = 64 * j + 64 by omega, List.take_add]
    rw [e, chs_append j (cat.take (64 * j)) (ys.take 64) (by rw [List.length_take]; omega), chs_one (a := ys.take 64) (by rw [List.length_take]; omega)]
    exact h.tl.append (show Tl [ys.take 64] [(V, E)] from ⟨hU, trivial⟩)
theorem Pj.done {cat ys : List Nat} {vs : List (Value × Int)} {j : Nat} (h : Pj cat ys vs j) (he : ys = []) : Tl (chs cat) vs := by
  have e : cat = cat.take (64 * j) := by
    have h1 := h.ys
    rw [he] at h1
    have h2 := congrArg List.length h1
    simp at h2
    rw [List.take_of_length_le (by omega)]
  rw [e]; exact h.tl
theorem Pj.short {cat ys : List Nat} {vs : List (Value × Int)} {j : Nat} (h : Pj cat ys vs j) (h0 : 0 < ys.length) (h1 : ys.length < 64) : Tl (chs cat) (vs ++ [(.agg fz, 20)]) := by
  have e : cat = cat.take (64 * j) ++ ys := by rw [h.ys, List.take_append_drop]
  rw [e, chs_append j (cat.take (64 * j)) ys (by rw [List.length_take]; have := h.le; omega)]
  refine h.tl.append ?_
  have hne : ys ≠ [] := by rintro rfl; simp at h0
  rw [chs_ne hne, List.take_of_length_le (by omega), List.drop_eq_nil_of_le (by omega), chs_nil]
  exact (show Tl [ys] [(.agg fz, 20)] from ⟨.inl ⟨h1, rfl, rfl⟩, trivial⟩)
theorem fz_eq : fz = #[.int .u8 0, .int .u64 0, .int .u64 0, .int .u64 0, .int .u64 0, .int .u64 0, .int .u64 0, .int .u64 0] := by rfl
end Go.Proofs.YtniofmaefonkdaaDoor
