/-
  What is told, read again and compared; bytes laid behind in a drawn region.
-/
import Derived.Test.YtioohpdjmamhgaaDoorWaT
import Derived.Test.YtioohpdjmamhgaaDoorEqF
import Derived.Deep.RegionLaw
import Derived.Deep.AppendLies
import Derived.Maps.AppendAt
namespace Go.Proofs.YtioohpdjmamhgaaDoor
open Go.RowKit Go.Deep Crc
set_option linter.unusedVariables false
set_option linter.unusedSimpArgs false
set_option maxRecDepth 100000
abbrev P9 (k a0 a1 a2 a3 a4 a5 a6 : Nat) (E : Int) : Value := .agg #[.int .u8 (k : Nat), .int .u64 (a0 : Nat), .int .u64 (a1 : Nat), .int .u64 (a2 : Nat), .int .u64 (a3 : Nat), .int .u64 (a4 : Nat), .int .u64 (a5 : Nat), .int .u64 (a6 : Nat), .int .i64 E]
theorem stood61 : Tryd.prog.stoodInHeld 61 = false := by kernel_rfl
theorem fields61 : (Tryd.prog.fieldsOf 61).toList.map (fun f => (f.name, f.type, f.offset)) = [("f", 31, 0), ("e", 35, 8)] := by kernel_rfl
theorem under61 : Tryd.prog.underlying 61 = some (.struct (Tryd.prog.fieldsOf 61)) := by kernel_rfl
theorem eqF' (d : Nat) (k a0 a1 a2 a3 a4 a5 a6 : Int) (w : World) : (Op.equalIn (d + 3) 31 (.agg #[.int .u8 k, .int .u64 a0, .int .u64 a1, .int .u64 a2, .int .u64 a3, .int .u64 a4, .int .u64 a5, .int .u64 a6]) (.agg #[.int .u8 k, .int .u64 a0, .int .u64 a1, .int .u64 a2, .int .u64 a3, .int .u64 a4, .int .u64 a5, .int .u64 a6])).run Tryd.prog w = .ok true w := by
  rw [show d + 3 = (d + 2) + 1 from rfl, run_equalIn_struct w (d + 2) 31 _ _ under31 stood31]
  obtain ⟨f, g, h, hf, hg⟩ := two_of _ _ _ _ fields31
  rw [h]
  simp only [Prod.mk.injEq] at hf hg
  obtain ⟨f1, f2, f3⟩ := hf
  obtain ⟨g1, g2, g3⟩ := hg
  have a29 := Tryd.isAgg29
  have z29 := Tryd.sizeOf29
  have pw : (part 29 #[.int .u8 k, .int .u64 a0, .int .u64 a1, .int .u64 a2, .int .u64 a3, .int .u64 a4, .int .u64 a5, .int .u64 a6] 1).run Tryd.prog w = .ok (.agg #[.int .u64 a0, .int .u64 a1, .int .u64 a2, .int .u64 a3, .int .u64 a4, .int .u64 a5, .int .u64 a6]) w := by
    simp [part, Sem.run_bind, a29, z29]
  have q1 := eq_byteF (d + 1) k k w
  have q2 := eqW a0 a1 a2 a3 a4 a5 a6 d w
  simp [Op.eqFields, f1, f2, f3, g1, g2, g3, Sem.run_bind, part_byte0, pw, q1, q2]
theorem eq_errno (d : Nat) (a b : Int) (w : World) : (Op.equalIn (d + 1) 35 (.int .i64 a) (.int .i64 b)).run Tryd.prog w = .ok (a == b) w := by
  have u5 := Tryd.underlying35
  rw [Op.equalIn]
  simp [Sem.run_bind, run_underlying u5]
theorem eqP (k a0 a1 a2 a3 a4 a5 a6 : Nat) (E : Int) (w : World) : (Op.equalIn 10000 61 (P9 k a0 a1 a2 a3 a4 a5 a6 E) (P9 k a0 a1 a2 a3 a4 a5 a6 E)).run Tryd.prog w = .ok true w := by
  rw [show (10000 : Nat) = 9999 + 1 from rfl, run_equalIn_struct w 9999 61 _ _ under61 stood61]
  obtain ⟨f, g, h, hf, hg⟩ := two_of _ _ _ _ fields61
  rw [h]
  simp only [Prod.mk.injEq] at hf hg
  obtain ⟨f1, f2, f3⟩ := hf
  obtain ⟨g1, g2, g3⟩ := hg
  have a31 := Tryd.isAgg31
  have z31 := Tryd.sizeOf31
  have a35 := Tryd.isAgg35
  have z35 := Tryd.sizeOf35
  have pw : (part 31 #[.int .u8 (k : Nat), .int .u64 (a0 : Nat), .int .u64 (a1 : Nat), .int .u64 (a2 : Nat), .int .u64 (a3 : Nat), .int .u64 (a4 : Nat), .int .u64 (a5 : Nat), .int .u64 (a6 : Nat), .int .i64 E] 0).run Tryd.prog w = .ok (.agg #[.int .u8 (k : Nat), .int .u64 (a0 : Nat), .int .u64 (a1 : Nat), .int .u64 (a2 : Nat), .int .u64 (a3 : Nat), .int .u64 (a4 : Nat), .int .u64 (a5 : Nat), .int .u64 (a6 : Nat)]) w := by
    simp [part, Sem.run_bind, a31, z31]
  have pe : (part 35 #[.int .u8 (k : Nat), .int .u64 (a0 : Nat), .int .u64 (a1 : Nat), .int .u64 (a2 : Nat), .int .u64 (a3 : Nat), .int .u64 (a4 : Nat), .int .u64 (a5 : Nat), .int .u64 (a6 : Nat), .int .i64 E] 8).run Tryd.prog w = .ok (.int .i64 E) w := by
    simp [part, Sem.run_bind, a35, z35]
  have q1 := eqF' 9996 k a0 a1 a2 a3 a4 a5 a6 w
  have q2 := eq_errno 9998 E E w
  rw [show 9996 + 3 = 9999 from rfl] at q1
  rw [show 9998 + 1 = 9999 from rfl] at q2
  simp [Op.eqFields, f1, f2, f3, g1, g2, g3, Sem.run_bind, pw, pe, q1, q2]
/-- compared, what is one is not two. -/
theorem neP (k a0 a1 a2 a3 a4 a5 a6 : Nat) (E : Int) (w : World) : (binOp .neq 61 (P9 k a0 a1 a2 a3 a4 a5 a6 E) (P9 k a0 a1 a2 a3 a4 a5 a6 E)).run Tryd.prog w = .ok (.bool false) w := by
  have := eqP k a0 a1 a2 a3 a4 a5 a6 E w
  rw [show (10000 : Nat) = Op.maxDepth from rfl] at this
  simp [binOp, Op.equal, Sem.run_bind, this]
/-- what is told lies so that it can be read. -/
structure PwR (W : World) (v : Value) (l : List (Value × Int)) : Prop where
  sl : ∃ q cap, v = .slice q l.length cap ∧ ∀ (i : Nat) (h : i < l.length), ∃ g, q = some ⟨g, 0, none⟩ ∧ g < W.heap.size ∧ ∀ j u, (pw l[i])[j]? = some u → W.cell? ⟨g, i * 9 + j, none⟩ = some u
theorem pws_get : ∀ {l : List (Value × Int)}, (∀ x ∈ l, (pw x).length = 9) → ∀ {i : Nat} (h : i < l.length) {j : Nat}, j < 9 → (pws l)[i * 9 + j]? = (pw l[i])[j]?
  | x :: l, hl, 0, h, j, hj => by
    have : (pw x).length = 9 := hl x (by simp)
    simp only [pws, List.flatMap_cons, Nat.zero_mul, Nat.zero_add, List.getElem_cons_zero]
    rw [List.getElem?_append_left (by omega)]
  | x :: l, hl, i + 1, h, j, hj => by
    have hx : (pw x).length = 9 := hl x (by simp)
    have := pws_get (l := l) (fun y hy => hl y (List.mem_cons_of_mem _ hy)) (i := i) (by simpa using h) hj
    simp only [pws, List.flatMap_cons, List.getElem_cons_succ] at this ⊢
    rw [List.getElem?_append_right (by omega), ← this]
    congr 1
    omega
theorem Tl.form : ∀ {cs : List (List Nat)} {vs : List (Value × Int)}, Tl cs vs → ∀ x ∈ vs, ∃ k a0 a1 a2 a3 a4 a5 a6 : Nat, x.1 = .agg #[.int .u8 (k : Nat), .int .u64 (a0 : Nat), .int .u64 (a1 : Nat), .int .u64 (a2 : Nat), .int .u64 (a3 : Nat), .int .u64 (a4 : Nat), .int .u64 (a5 : Nat), .int .u64 (a6 : Nat)]
  | [], [], _, x, hx => by simp at hx
  | c :: cs, v :: vs, h, x, hx => by
    rcases List.mem_cons.1 hx with rfl | hx
    · exact h.1.form
    · exact Tl.form h.2 x hx
theorem OwW.rd {base : Nat} {W : World} {v : Value} {cs : List (List Nat)} {l : List (Value × Int)} (h : OwW base W v l) (t : Tl cs l) : PwR W v l := by
  have h9 : ∀ x ∈ l, (pw x).length = 9 := fun x hx => by
    obtain ⟨k, a0, a1, a2, a3, a4, a5, a6, e⟩ := t.form x hx
    simp [pw, e, Value.cells]
  have hh := h
  obtain ⟨h1, ⟨rfl, e⟩ | ⟨g, c, cur, rfl, r1, r2, r3⟩⟩ := h
  · exact ⟨⟨none, 0, by rw [e], fun i hi => by omega⟩⟩
  · refine ⟨⟨some ⟨g, 0, none⟩, c, rfl, fun i hi => ⟨g, rfl, (Array.getElem?_eq_some_iff.1 r2).1, fun j u hj => ?_⟩⟩⟩
    have hj9 : j < 9 := by
      have := h9 _ (List.getElem_mem hi)
      have := (List.getElem?_eq_some_iff.1 hj).1
      omega
    rw [World.ownsRow.cellAt hh (i * 9 + j) (by omega), pws_get h9 hi hj9]
    exact hj
theorem PwR.on {W W' : World} {v : Value} {l : List (Value × Int)} (h : PwR W v l) (b : Below W.heap.size W W') : PwR W' v l := by
  obtain ⟨q, cap, e, hc⟩ := h.sl
  refine ⟨⟨q, cap, e, fun i hi => ?_⟩⟩
  obtain ⟨g, e1, hlt, h2⟩ := hc i hi
  exact ⟨g, e1, Nat.lt_of_lt_of_le hlt b.size, fun j u hj => by rw [b.cell (p := ⟨g, i * 9 + j, none⟩) hlt]; exact h2 j u hj⟩
theorem wp_appB {o : Oper} {a : Act} {w : World} {K : Act → World → Prop} {Q : Exit → Act → World → Prop} (s x : Operand)
    (ho : o.op = .call { callee := .builtin .append, args := #[s, x], argTypes := #[22, 22] }) (base : Nat) (v : Value) (zs : List Nat) (hs : a.eval s = v) (hown : w.ownsRow base 5 1 v zs.length (bv zs))
    (u : Value) (xs : List Nat) (hx : a.eval x = u) (hu : Sx w u xs) (hn : zs.length + xs.length ≤ 140737488355328) (hbase : base ≤ w.heap.size) (rs : List Nat) (hr : rs = zs ++ xs)
    (h : ∀ v' w', w'.ownsRow base 5 1 v' rs.length (bv rs) → Below base w w' → K (a.put o.dst v') w') :
    Oper.wp Tryd.prog o a w K Q := by
  subst hr
  obtain ⟨i0, hi, hz0, hz1, hz2⟩ := info_parts info5all
  rcases hu.pc with ⟨rfl, rfl⟩ | ⟨ad, c1, rfl, hc⟩
  · have hrun := run_append_owned_none (P := Tryd.prog) (w := w) base 22 o.type 5 i0 1 Tryd.underlying22 hi _ zs.length _ hown
    have hk : K (a.put o.dst v) w := h v w (by simpa using hown) (Below.refl _ _)
    unfold Oper.wp
    simp [execOp, ho, resolve, invoke, builtin, hs, hx, hrun, Result.andThen]
    exact hk
  · obtain ⟨v', w', hr, h1, h2, h3, h5⟩ := run_append_own_at (P := Tryd.prog) w base 22 o.type 5 i0 (.int .u8 0) 1 1 Tryd.underlying22 hi hz0 hz1 hz2 rfl (by decide) v zs.length (bv zs) hown ad xs.length c1 (bv xs) (by simp [bv_len]) hc (bv_one _) (by unfold maxLen; omega) (by omega) hbase
    have hb : Below base w w' := (Below.refl base w).grown h2 hbase (fun j hj => (World.ownsRow.lt hown j hj).1)
    have hK := h v' w' (by rw [bv_append, List.length_append]; exact h1) hb
    unfold Oper.wp execOp
    simp only [ho, resolve, invoke, builtin, Sem.run_bind, Sem.run_pure, Result.andThen_ok, List.map_toArray, List.map_cons, List.map_nil, hs, hx, hr]
    exact hK
theorem step_appB {ops : Array Oper} {o : Oper} {a : Act} {w : World} {K : Act → World → Prop} {Q : Exit → Act → World → Prop} {E : Prop} (hgd : o.guard = none) (s x : Operand)
    (ho : o.op = .call { callee := .builtin .append, args := #[s, x], argTypes := #[22, 22] }) (base : Nat) (v : Value) (zs : List Nat) (hs : a.eval s = v) (hown : w.ownsRow base 5 1 v zs.length (bv zs))
    (u : Value) (xs : List Nat) (hx : a.eval x = u) (hu : Sx w u xs) (hn : zs.length + xs.length ≤ 140737488355328) (hbase : base ≤ w.heap.size) (rs : List Nat) (hr : rs = zs ++ xs)
    (h : ∀ v' w', w'.ownsRow base 5 1 v' rs.length (bv rs) → Below base w w' → K (a.put o.dst v') w') :
    if Region.wanted o (yielded ops a.tmps) = true then Oper.wp Tryd.prog o a w K Q else E := by
  have hw : Region.wanted o (yielded ops a.tmps) = true := by simp [Region.wanted, hgd]
  rw [if_pos hw]
  exact wp_appB s x ho base v zs hs hown u xs hx hu hn hbase rs hr h
end Go.Proofs.YtioohpdjmamhgaaDoor
