/-
  Equal.
-/
import Derived.Test.YtcbfgodknonefaaDoorBmJ
import Derived.Deep.MidRow
import Derived.Laws.StructEq
namespace Go.Proofs.YtcbfgodknonefaaDoor
open Go.RowKit Go.Deep Bt
set_option linter.unusedVariables false
set_option maxRecDepth 100000
set_option maxHeartbeats 1000000

def bw (xs : List Nat) : List Value := xs.map fun (x : Nat) => Value.int .u64 (x : Int)
theorem part_word (xs : List Nat) (i : Nat) (h : i < xs.length) (w : World) : (part 24 (bw xs).toArray i).run Tryd.prog w = .ok (.int .u64 ((xs[i] : Nat) : Int)) w := by
  have a24 := Tryd.isAgg24
  have hv : (bw xs).toArray[i]? = some (.int .u64 ((xs[i] : Nat) : Int)) := by simp [bw, h]
  simp only [part, Sem.run_bind, a24, Result.andThen_ok, hv]
  simp
theorem eq_word (d : Nat) (a b : Int) (w : World) : (Op.equalIn (d + 1) 24 (.int .u64 a) (.int .u64 b)).run Tryd.prog w = .ok (a == b) w := by
  have u24 := Tryd.underlying24
  rw [Op.equalIn]
  simp [Sem.run_bind, run_underlying u24]
theorem eq_wloop (xs ys : List Nat) (n d : Nat) (hx : xs.length = n) (hy : ys.length = n) (w : World) : ∀ m s, s + m = n →
    (Sem.run Tryd.prog (forIn (List.range' s m) (none, ()) fun i (__s : Option Bool × Unit) => do
      let __do_lift ← part 24 (bw xs).toArray (i * 1)
      let __do_lift_1 ← part 24 (bw ys).toArray (i * 1)
      let __do_lift ← Op.equalIn (d + 1) 24 __do_lift __do_lift_1
      if (!__do_lift) = true then pure (ForInStep.done (some false, ())) else pure (ForInStep.yield (none, ()))) w) =
    .ok (if xs.drop s = ys.drop s then (none, ()) else (some false, ())) w := by
  intro m
  induction m with
  | zero =>
    intro s h
    have e1 : xs.drop s = [] := List.drop_eq_nil_of_le (by omega)
    have e2 : ys.drop s = [] := List.drop_eq_nil_of_le (by omega)
    simp [e1, e2]
  | succ m ih =>
    intro s h
    have h1 : s < xs.length := by omega
    have h2 : s < ys.length := by omega
    have e1 : xs.drop s = xs[s] :: xs.drop (s + 1) := List.drop_eq_getElem_cons h1
    have e2 : ys.drop s = ys[s] :: ys.drop (s + 1) := List.drop_eq_getElem_cons h2
    have hd : (xs.drop s = ys.drop s) ↔ (xs[s] = ys[s] ∧ xs.drop (s + 1) = ys.drop (s + 1)) := by rw [e1, e2, List.cons.injEq]
    clear e1 e2
    rw [List.range'_succ, List.forIn_cons]
    simp only [Sem.run_bind, Nat.mul_one, part_word xs s h1, part_word ys s h2, Result.andThen_ok, eq_word, Sem.run_ite]
    by_cases hc : xs[s] = ys[s]
    · have := ih (s + 1) (by omega)
      simp only [Nat.mul_one] at this
      simp [hd, hc]
      simpa using this
    · have hb : (((xs[s] : Nat) : Int) == ((ys[s] : Nat) : Int)) = false := by simp; omega
      simp [hd, hc]
      intro e
      exact absurd (by omega) hc
theorem eq_words (xs ys : List Nat) (hx : xs.length = 4096) (hy : ys.length = 4096) (w : World) :
    (Op.equalIn 10000 26 (.agg (bw xs).toArray) (.agg (bw ys).toArray)).run Tryd.prog w = .ok (decide (xs = ys)) w := by
  have z24 := Tryd.sizeOf24
  have u24 := Tryd.underlying24
  have ht := Tryd.underlying26
  rw [show (10000 : Nat) = 9999 + 1 from rfl, Op.equalIn]
  simp only [Sem.run_bind, run_underlying ht, Result.andThen_ok, z24]
  simp only [Std.Legacy.Range.forIn_eq_forIn_range', Std.Legacy.Range.size, Nat.sub_zero, Nat.add_sub_cancel, Nat.div_one]
  have := eq_wloop xs ys 4096 9998 hx hy w 4096 0 (by omega)
  rw [this]
  by_cases h : xs = ys <;> simp [h]
/-- the low words. -/
def lows (S : Nat → Bool) : List Nat := (List.range 4096).map (lo S)
theorem lows_len (S : Nat → Bool) : (lows S).length = 4096 := by unfold lows; simp
theorem lows_at (S : Nat → Bool) (i : Nat) (h : i < 4096) : (lows S)[i]'(by rw [lows_len]; exact h) = lo S i := by unfold lows; simp
theorem lows_eq (S T : Nat → Bool) : lows S = lows T ↔ ∀ x, x < 262144 → S x = T x := by
  constructor
  · intro h x hx
    have h1 : lo S (x / 64) = lo T (x / 64) := by
      rw [← lows_at S (x / 64) (by omega), ← lows_at T (x / 64) (by omega)]
      simp only [h]
    have h2 := lo_bit S (x / 64) (x % 64) (by omega)
    have h3 := lo_bit T (x / 64) (x % 64) (by omega)
    rw [show 64 * (x / 64) + x % 64 = x by omega] at h2 h3
    rw [← h2, ← h3, h1]
  · intro h
    refine List.ext_getElem (by rw [lows_len, lows_len]) (fun i h1 h2 => ?_)
    have hi : i < 4096 := by rw [lows_len] at h1; exact h1
    rw [lows_at S i hi, lows_at T i hi]
    exact lo_ext i (fun b hb => h _ (by omega))
theorem info26 : (Tryd.prog.info? 26).map (·.size) = some 4096 := by kernel_rfl
theorem Bm.rangeLow {w : World} {b : Nat} {S : Nat → Bool} (h : Bm w b S) : w.rangeAt b 65 (bw (lows S)) := by
  intro j v hj
  have hl : j < (lows S).length := by
    have := List.getElem?_eq_some_iff.1 hj
    obtain ⟨h1, _⟩ := this
    unfold bw at h1
    simpa using h1
  have hj' : j < 4096 := by rw [lows_len] at hl; exact hl
  rw [h.low j hj', ← lows_at S j hj', ← hj]
  unfold bw
  rw [List.getElem?_map, List.getElem?_eq_getElem hl]
  rfl
theorem load_low {w : World} {b : Nat} {S : Nat → Bool} (h : Bm w b S) : (Instr.loadAt 26 (.pointer (some ⟨b, 65, none⟩))).run Tryd.prog w = .ok (.agg (bw (lows S)).toArray) w :=
  run_loadAt_mid w b 65 26 (bw (lows S)) _ h.rangeLow Tryd.underlying26 rfl (by rw [show (bw (lows S)).length = 4096 by unfold bw; rw [List.length_map, lows_len]]; exact info26)
theorem quiet_load {P : Program} {o : Oper} {a : Act} {C : World → Prop} {K : Act → Prop} (ty : TypeId) (x : Operand) (p v : Value) (ho : o.op = .load ty x) (hx : a.eval x = p) (h : ∀ w, C w → (Instr.loadAt ty p).run P w = .ok v w) (hk : K (a.put o.dst v)) : o.quiet P a C K := by
  refine ⟨v, fun w hw => ?_, hk⟩
  unfold Oper.quietAt execOp
  simp only [ho, hx, Sem.run_bind, h w hw, Result.andThen_ok, Sem.run_pure]
  exact ⟨rfl, rfl⟩
theorem quiet_eql {P : Program} {o : Oper} {a : Act} {C : World → Prop} {K : Act → Prop} (ty ty2 : TypeId) (x y : Operand) (p q : Array Value) (r : Bool) (ho : o.op = .binOp .eql ty x y ty2) (hx : a.eval x = .agg p) (hy : a.eval y = .agg q) (hg : P.eqGuardType P.depth ty = false) (h : ∀ w, C w → (Op.equalIn 10000 ty (.agg p) (.agg q)).run P w = .ok r w) (hk : K (a.put o.dst (.bool r))) : o.quiet P a C K := by
  refine ⟨.bool r, fun w hw => ?_, hk⟩
  unfold Oper.quietAt execOp
  simp only [ho, hx, hy]
  have e := run_eqGuard_agg (P := P) w .eql ty x y p q hg
  simp [go_sem, e, h w hw]
/-- are two sets the same? -/
def sameS (S T : Nat → Bool) : Bool := decide (lows S = lows T)
theorem equal_any (b c : Nat) (S T : Nat → Bool) (w : World) (hB : Bm w b S) (hC : Bm w c T) :
    Calls Tryd.prog 15 #[.pointer (some ⟨b, 0, none⟩), .pointer (some ⟨c, 0, none⟩)] w fun e w' => e = .returned (.bool (sameS S T)) ∧ Below w.heap.size w w' := by
  have h1 := fun n => load_low (w := w.drewN n) (b := b) (S := S) hB
  have h2 := fun n => load_low (w := w.drewN n) (b := c) (S := T) hC
  have h3 := fun w => eq_words (lows S) (lows T) (lows_len S) (lows_len T) w
  unfold sameS
  obtain ⟨X, hX⟩ : ∃ X, (bw (lows S)).toArray = X := ⟨_, rfl⟩
  obtain ⟨Y, hY⟩ : ∃ Y, (bw (lows T)).toArray = Y := ⟨_, rfl⟩
  obtain ⟨B, hBd⟩ : ∃ B, decide (lows S = lows T) = B := ⟨_, rfl⟩
  rw [hX] at h1 h3
  rw [hY] at h2 h3
  rw [hBd] at h3 ⊢
  clear hB hC hX hY hBd
  go_enter Tryd.func15, Tryd.ntmps15
  go_wp2_with fail
  refine wp_region_quiet_lit (by kernel_rfl) (by kernel_rfl) ?_
  iterate 3 (go_big_quiet_step (fail))
  go_big_quiet_want
  refine quiet_load 26 (.tmp 7) _ (.agg X) rfl rfl (by rintro _ ⟨n, rfl⟩; exact h1 n) ?_
  simp only [Act.put, List.setIfInBounds_toArray, List.set_cons_succ, List.set_cons_zero]
  go_big_quiet_on
  iterate 3 (go_big_quiet_step (fail))
  go_big_quiet_want
  refine quiet_load 26 (.tmp 11) _ (.agg Y) rfl rfl (by rintro _ ⟨n, rfl⟩; exact h2 n) ?_
  simp only [Act.put, List.setIfInBounds_toArray, List.set_cons_succ, List.set_cons_zero]
  go_big_quiet_on
  go_big_quiet_want
  refine quiet_eql 26 26 (.tmp 8) (.tmp 12) X Y B rfl rfl rfl Tryd.eqGuardType26 (fun w _ => h3 w) ?_
  simp only [Act.put, List.setIfInBounds_toArray, List.set_cons_succ, List.set_cons_zero]
  go_big_quiet_on
  go_big_quiet_step (fail)
  refine wpQuiet_nil ?_
  rintro _ ⟨n, rfl⟩
  go_wp2_with fail
  go_ret
  exact ⟨rfl, below_drews rfl rfl rfl rfl⟩
end Go.Proofs.YtcbfgodknonefaaDoor
