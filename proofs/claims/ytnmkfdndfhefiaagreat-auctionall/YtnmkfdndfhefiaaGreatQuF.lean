/-
  The document's Enter, where it takes.
-/
import Derived.Test.YtnmkfdndfhefiaaGreatQuE
namespace Go.Proofs.YtnmkfdndfhefiaaGreat
open Go.RowKit Go.Deep Go.Shelf
set_option linter.unusedVariables false
set_option linter.unusedSimpArgs false
set_option maxHeartbeats 16000000
set_option maxRecDepth 100000
theorem own_geQ {base : Nat} {w : World} {e : TypeId} {size n c : Nat} {p : Option Addr} {xs : List Value} (h : w.ownsRow base e size (.slice p n c) n xs) {g : Nat} (hg : OfP p g) : base ≤ g := by
  subst hg
  obtain ⟨_, ⟨e1, _⟩ | ⟨g', c', cur, e1, r1, _⟩⟩ := h
  · cases (Value.slice.inj e1).1
  · have := (Value.slice.inj e1).1
    injection this with this
    injection this with this
    omega
theorem grown_same (w : World) (r : Option Nat) : w.grownBy w r := ⟨rfl, rfl, rfl, Nat.le_refl _, fun _ _ _ => rfl⟩
/-- interests behind interests, in a region that draws its order. -/
theorem wp_its {w : World} {oo : Oper} {a : Act} {K : Act → World → Prop} {Q : Exit → Act → World → Prop} (s x : Operand)
    (ho : oo.op = .call { callee := .builtin .append, args := #[s, x], argTypes := #[27, 27] }) (base base2 : Nat) (v : Value) (n : Nat) (l1 : List It) (hs : a.eval s = v) (h1 : w.ownsRow base 35 6 v n (its l1))
    (v2 : Value) (m : Nat) (l2 : List It) (hx : a.eval x = v2) (h2 : w.ownsRow base2 35 6 v2 m (its l2)) (k : Nat) (hk : n + m = k) (l3 : List It) (hl : l1 ++ l2 = l3) (hb : n + m ≤ 8192) (hbase : base ≤ w.heap.size)
    (h : ∀ p' c' w', Hid (w'.ownsRow base 35 6 (.slice p' k c') k (its l3)) → Hid (w.grownBy w' v.ownBlock) → K (a.put oo.dst (.slice p' k c')) w') : Oper.wp Tryz.prog oo a w K Q := by
  subst hk hl
  obtain ⟨i0, hi, hz0, hz1, hz2⟩ := info_parts infoIt
  obtain ⟨g1, ⟨rfl, rfl⟩ | ⟨g, cap, cur, rfl, r1, r2, r3, r4, r5, r6⟩⟩ := h2
  · have e : its l2 = [] := List.length_eq_zero_iff.1 (by simpa using g1)
    have hrun := run_append_owned_none (P := Tryz.prog) (w := w) base 27 oo.type 35 i0 6 Tryz.underlying27 hi v n (its l1) h1
    obtain ⟨p', c', rfl⟩ := own_form h1
    unfold Oper.wp
    simp [Oper.upon, execOp, ho, resolve, invoke, builtin, hs, hx, hrun, Result.andThen]
    have := h p' c' w (hid (by rw [its_app, e, List.append_nil]; exact h1)) (hid (grown_same _ _))
    simpa using this
  · refine wp_append_own w s x 27 ho base 35 i0 _ 6 48 Tryz.underlying27 hi hz0 hz1 hz2 rfl (by decide) v n (its l1) hs h1 ⟨g, 0, none⟩ m cap (its l2) hx g1 (fun j u hj => ?_) (its_one _) (by unfold maxLen; omega) (by omega) hbase (fun v' w' h2 h3 _ => ?_)
    · rw [Addr.add_lit, Nat.zero_add, row_cell r2]
      have := congrArg (fun z => z[j]?) r6
      have hlt : j < m * 6 := by rw [← g1]; exact (List.getElem?_eq_some_iff.1 hj).1
      simp only [List.getElem?_take, hlt, if_true, Array.getElem?_toList] at this
      rw [this, hj]
    · obtain ⟨p', c', rfl⟩ := own_form h2
      exact h p' c' w' (hid (by rw [its_app]; exact h2)) (hid h3)
theorem step_its {w : World} {ops : Array Oper} {oo : Oper} {a : Act} {K : Act → World → Prop} {Q : Exit → Act → World → Prop} {E : Prop} (hgd : oo.guard = none) (s x : Operand)
    (ho : oo.op = .call { callee := .builtin .append, args := #[s, x], argTypes := #[27, 27] }) (base base2 : Nat) (v : Value) (n : Nat) (l1 : List It) (hs : a.eval s = v) (h1 : w.ownsRow base 35 6 v n (its l1))
    (v2 : Value) (m : Nat) (l2 : List It) (hx : a.eval x = v2) (h2 : w.ownsRow base2 35 6 v2 m (its l2)) (k : Nat) (hk : n + m = k) (l3 : List It) (hl : l1 ++ l2 = l3) (hb : n + m ≤ 8192) (hbase : base ≤ w.heap.size)
    (h : ∀ p' c' w', Hid (w'.ownsRow base 35 6 (.slice p' k c') k (its l3)) → Hid (w.grownBy w' v.ownBlock) → K (a.put oo.dst (.slice p' k c')) w') : if Region.wanted oo (yielded ops a.tmps) = true then Oper.wp Tryz.prog oo a w K Q else E := by
  have hw : Region.wanted oo (yielded ops a.tmps) = true := by simp [Region.wanted, hgd]
  rw [if_pos hw]
  exact wp_its s x ho base base2 v n l1 hs h1 v2 m l2 hx h2 k hk l3 hl hb hbase h
theorem own_none (w : World) : (w.alloc (.cells #[] 35)).ownsRow w.heap.size 35 6 (.slice (some ⟨w.heap.size, 0, none⟩) 0 0) 0 (its []) := ⟨rfl, .inr ⟨w.heap.size, 0, #[], rfl, Nat.le_refl _, World.alloc_heap_new _ _, Nat.le_refl _, by unfold maxLen; omega, rfl, rfl⟩⟩
theorem own_one (w : World) (x : It) : (w.alloc (.cells #[.int .u64 x.id, .int .u32 x.mb, .int .i64 x.sd, .int .i64 x.ty, .int .i64 x.pr, .int .u64 x.qt] 35)).ownsRow w.heap.size 35 6 (.slice (some ⟨w.heap.size, 0, none⟩) 1 1) 1 (its [x]) := ⟨rfl, .inr ⟨w.heap.size, 1, _, rfl, Nat.le_refl _, World.alloc_heap_new _ _, Nat.le_refl _, by unfold maxLen; omega, rfl, rfl⟩⟩
/-- what lies below stays where one's own grows. -/
theorem bel_app {w U V : World} {v : Value} {n : Nat} {xs : List Value} (hb : Below w.heap.size w U) (ho : U.ownsRow w.heap.size 35 6 v n xs) (hg : U.grownBy V v.ownBlock) : Below w.heap.size w V := hb.grown hg hb.size (fun k hk => own_ge ho hk)
theorem own_gr {base : Nat} {U V : World} {v u : Value} {n : Nat} {xs : List Value} (ho : U.ownsRow base 35 6 v n xs) (hg : U.grownBy V u.ownBlock) (hne : ∀ k, v.ownBlock = some k → some k ≠ u.ownBlock) : V.ownsRow base 35 6 v n xs := own_same ho (fun k hk => hg.block k (by obtain ⟨cu, hcu⟩ := own_ty ho hk; exact row_lt hcu) (hne k hk))
theorem re_tail {w v1 wb : World} {R n cb : Nat} {r m : Int} {p pb : Option Addr} {c : Nat} {x : It} {l3 : List It} (hR : w.heap.size = R) (he : Et0 w v1 R r m p n c x) (vb : Below v1.heap.size v1 wb) (hb : wb.ownsRow v1.heap.size 35 6 (.slice pb (n + 1) cb) (n + 1) (its l3)) :
    (wb.setCell ⟨R, 2, none⟩ (.slice pb (n + 1) cb)).heap[R]? = some (.cells #[.int .i64 r, .int .i64 m, .slice pb (n + 1) cb] 29 (0, 0)) ∧ (wb.setCell ⟨R, 2, none⟩ (.slice pb (n + 1) cb)).heap[R + 2]? = some (.cells #[.int .i64 0, .int .i64 0, .slice none 0 0] 29 (0, 0)) ∧ Below w.heap.size w (wb.setCell ⟨R, 2, none⟩ (.slice pb (n + 1) cb)) ∧ (wb.setCell ⟨R, 2, none⟩ (.slice pb (n + 1) cb)).ownsRow v1.heap.size 35 6 (.slice pb (n + 1) cb) (n + 1) (its l3) ∧ R + 2 < v1.heap.size := by
  have k := Kp.set wb R 2 (.slice pb (n + 1) cb)
  have hz := row_lt he.z
  have hbe := btr he.be vb
  refine ⟨heap_setCell_same wb R 2 _ _ _ (row_on he.a vb), k.row (row_on he.z vb) (by omega), hbe.trans (k.below hbe.size (fun g hg e => by omega)), own_same hb (fun g hg => ?_), hz⟩
  have h1 := own_ge hb hg
  obtain ⟨cu, hcu⟩ := own_ty hb hg
  exact k.obj g (row_lt hcu) (by omega)
theorem re_end {U : World} {n cb k : Nat} {base : Nat} {pb : Option Addr} {l3 : List It} {cs : Array Value} (hn : l3.length = n + 1) (h : U.ownsRow base 35 6 (.slice pb (n + 1) cb) (n + 1) (its l3)) (hk : k < base) : Li (U.setRow k cs) pb cb l3 := by
  unfold Li
  rw [hn]
  refine own_base (own_same h (fun g hg => ?_)) (Nat.zero_le _)
  have h1 := own_ge h hg
  obtain ⟨cu, hcu⟩ := own_ty h hg
  exact (setRow_kp U k cs).obj g (row_lt hcu) (by omega)
end Go.Proofs.YtnmkfdndfhefiaaGreat
