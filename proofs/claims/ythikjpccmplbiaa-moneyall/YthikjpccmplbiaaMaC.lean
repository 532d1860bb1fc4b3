/-
  MoneyAll: the box, written at a place.
-/
import Derived.Test.YthikjpccmplbiaaMaA
namespace Go.Proofs.Ythikjpccmplbiaa.Dm
open Go.RowKit Go.Deep BigM MonM TexM ParM
set_option linter.unusedVariables false
set_option linter.unusedSimpArgs false
set_option maxHeartbeats 2000000
set_option maxRecDepth 100000
theorem bn_set {w : World} {u v : Value} {x : Int} {g i : Nat} {old : Array Value} (h : Bn w u x) (hg : w.heap[g]? = some (.cells old 34 (0, 0))) : Bn (w.setCell ⟨g, i, none⟩ v) u x := by
  obtain ⟨ds, h1, h2⟩ := h
  refine ⟨ds, ?_, h2⟩
  rcases h1 with h1 | ⟨b, o, cap, e1, l1, l2, ⟨cur, hc⟩, h3⟩
  · exact .inl h1
  · have hne : b ≠ g := fun e => by
      rw [e, hg] at hc
      injection hc with hc
      injection hc with _ hc
      cases hc
    have hh : (w.setCell ⟨g, i, none⟩ v).heap[b]? = w.heap[b]? := heap_setCell_other _ _ _ _ (by show b ≠ g; exact hne)
    refine .inr ⟨b, o, cap, e1, l1, l2, ⟨cur, by rw [hh]; exact hc⟩, fun j hj => ?_⟩
    rw [← h3 j hj]
    simp only [World.cell?, hh]
theorem set_row {w : World} {g i : Nat} {t : TypeId} {cs : Array Value} {v : Value} (h : w.heap[g]? = some (.cells cs t (0, 0))) : (w.setCell ⟨g, i, none⟩ v).heap[g]? = some (.cells (cs.setIfInBounds i v) t (0, 0)) := heap_setCell_same w g i cs t v h
theorem am_rowt {w : World} {v : Value} {m : Int} {g : Nat} {t : TypeId} {cs old : Array Value} (ht : t ≠ 37) (h : Am w v m) (hg : w.heap[g]? = some (.cells old t (0, 0))) : Am (w.setRow g cs) v m := by
  obtain ⟨u, e, ds, h1, h2⟩ := h
  refine ⟨u, e, ds, ?_, h2⟩
  rcases h1 with h1 | ⟨b, o, cap, e1, l1, l2, ⟨cur, hc⟩, h3⟩
  · exact .inl h1
  · have hne : b ≠ g := fun e => by
      rw [e, hg] at hc
      injection hc with hc
      injection hc with _ hc
      exact ht hc
    refine .inr ⟨b, o, cap, e1, l1, l2, ⟨cur, by rw [setRow_other w g b cs hne]; exact hc⟩, fun j hj => ?_⟩
    rw [← h3 j hj]
    simp only [World.cell?, setRow_other w g b cs hne]
theorem am_sett {w : World} {v u : Value} {m : Int} {g i : Nat} {t : TypeId} {old : Array Value} (ht : t ≠ 37) (h : Am w v m) (hg : w.heap[g]? = some (.cells old t (0, 0))) : Am (w.setCell ⟨g, i, none⟩ u) v m := by
  obtain ⟨z, e, ds, h1, h2⟩ := h
  refine ⟨z, e, ds, ?_, h2⟩
  rcases h1 with h1 | ⟨b, o, cap, e1, l1, l2, ⟨cur, hc⟩, h3⟩
  · exact .inl h1
  · have hne : b ≠ g := fun e => by
      rw [e, hg] at hc
      injection hc with hc
      injection hc with _ hc
      exact ht hc
    have hh : (w.setCell ⟨g, i, none⟩ u).heap[b]? = w.heap[b]? := heap_setCell_other _ _ _ _ (by show b ≠ g; exact hne)
    refine .inr ⟨b, o, cap, e1, l1, l2, ⟨cur, by rw [hh]; exact hc⟩, fun j hj => ?_⟩
    rw [← h3 j hj]
    simp only [World.cell?, hh]
theorem setRow_ge {G : Nat} {w W : World} {g : Nat} {cs : Array Value} (h : Below G w W) (hg : G ≤ g) : Below G w (W.setRow g cs) :=
  h.trans ⟨rfl, rfl, rfl, by simp [World.setRow], fun b hb => setRow_other W g b cs (by omega)⟩
theorem row_kp {w : World} {g k : Nat} {o : Obj} {cs : Array Value} (h : w.heap[g]? = some o) (hk : g ≠ k) : (w.setRow k cs).heap[g]? = some o := by
  rw [setRow_other w k g cs hk]; exact h
theorem bgo {G : Nat} {a b c : World} (h : Below G a b) (hg : G ≤ a.heap.size) (k : Below b.heap.size b c) : Below G a c := h.trans (k.mono (Nat.le_trans hg h.size))
/-- the world behind the two stores. -/
def putW (W : World) (B o : Nat) (h l r s : Value) : World := (((W.setCell ⟨B, o * 2, none⟩ h).setCell ⟨B, o * 2 + 1, none⟩ l).setCell ⟨B, 8 + o * 2, none⟩ r).setCell ⟨B, 8 + o * 2 + 1, none⟩ s
theorem Mw.put {W : World} {B : Nat} {m : Nat → Int} (h : Mw W B m) (o : Nat) (ho : o < 4) (x : Int) (hx : Amt x) (r : Bool) (a : Option Addr) (n c : Nat) (ha : Am W (.agg #[.bool r, .slice a n c]) x) :
    Mw (putW W B o (.int .u64 (hiW x)) (.int .u64 (loW x)) (.bool r) (.slice a n c)) B (fun k => if k = o then x else m k) := by
  obtain ⟨cur, h1, h2, h3⟩ := h
  obtain ⟨u, e, hb⟩ := ha
  injection e with e
  have e1 : r = decide (x < 0) := by injection e with e; injection e with e _; injection e
  have e2 : u = .slice a n c := by injection e with e; injection e with _ e; injection e with e _; exact e.symm
  subst e2
  have g1 := set_row (i := o * 2) (v := .int .u64 (hiW x)) h1
  have g2 := set_row (i := o * 2 + 1) (v := .int .u64 (loW x)) g1
  have g3 := set_row (i := 8 + o * 2) (v := .bool r) g2
  have g4 := set_row (i := 8 + o * 2 + 1) (v := .slice a n c) g3
  have bn2 : ∀ v y, Bn W v y → Bn (putW W B o (.int .u64 (hiW x)) (.int .u64 (loW x)) (.bool r) (.slice a n c)) v y := fun v y hu => by
    unfold putW
    exact bn_set (bn_set (bn_set (bn_set hu h1) (set_row h1)) (set_row (set_row h1))) (set_row (set_row (set_row h1)))
  refine ⟨_, g4, by simp [h2], fun i hi => ?_⟩
  obtain ⟨a1, a2, a3, a', n', c', a4, a5, a6⟩ := h3 i hi
  by_cases hio : i = o
  · subst hio
    simp only [if_true]
    refine ⟨hx, ?_, ?_, a, n, c, ?_, ?_, bn2 _ _ hb⟩
    · rw [Array.getElem?_setIfInBounds_ne (by omega), Array.getElem?_setIfInBounds_ne (by omega), Array.getElem?_setIfInBounds_ne (by omega), Array.getElem?_setIfInBounds_self_of_lt (by omega)]
    · rw [Array.getElem?_setIfInBounds_ne (by omega), Array.getElem?_setIfInBounds_ne (by omega), Array.getElem?_setIfInBounds_self_of_lt (by simp; omega)]
    · rw [Array.getElem?_setIfInBounds_ne (by omega), Array.getElem?_setIfInBounds_self_of_lt (by simp; omega), e1]
    · rw [Array.getElem?_setIfInBounds_self_of_lt (by simp; omega)]
  · simp only [if_neg hio]
    refine ⟨a1, ?_, ?_, a', n', c', ?_, ?_, bn2 _ _ a6⟩
    · rw [Array.getElem?_setIfInBounds_ne (by omega), Array.getElem?_setIfInBounds_ne (by omega), Array.getElem?_setIfInBounds_ne (by omega), Array.getElem?_setIfInBounds_ne (by omega)]; exact a2
    · rw [Array.getElem?_setIfInBounds_ne (by omega), Array.getElem?_setIfInBounds_ne (by omega), Array.getElem?_setIfInBounds_ne (by omega), Array.getElem?_setIfInBounds_ne (by omega)]; exact a3
    · rw [Array.getElem?_setIfInBounds_ne (by omega), Array.getElem?_setIfInBounds_ne (by omega), Array.getElem?_setIfInBounds_ne (by omega), Array.getElem?_setIfInBounds_ne (by omega)]; exact a4
    · rw [Array.getElem?_setIfInBounds_ne (by omega), Array.getElem?_setIfInBounds_ne (by omega), Array.getElem?_setIfInBounds_ne (by omega), Array.getElem?_setIfInBounds_ne (by omega)]; exact a5
/-- what is read of a text, by both. -/
theorem reads (s : ByteArray) (hs : s.size ≤ maxLen) : ∃ m er, Amt m ∧ ((er = 0 ∧ IsText m (nums s)) ∨ (er = 3 ∧ m = 0)) ∧
    (∀ U : World, Calls Try.prog 18 #[.string s] U fun e w' => e = .returned (.tuple #[.agg #[.int .u64 (hiW m), .int .u64 (loW m)], .int .i64 er]) ∧ Below U.heap.size U w') ∧
    (∀ U : World, Calls Try.prog 19 #[.string s] U fun e w' => (∃ b a n c, e = .returned (.tuple #[.agg #[.bool b, .slice a n c], .int .i64 er]) ∧ Am w' (.agg #[.bool b, .slice a n c]) m) ∧ Below U.heap.size U w') := by
  have am : ∀ (w' : World) v m, Am w' v m → ∃ b a n c, v = .agg #[.bool b, .slice a n c] := fun w' v m h => by
    obtain ⟨u, e, hb⟩ := h
    obtain ⟨a, n, c, rfl, _⟩ := bn_form hb
    exact ⟨_, a, n, c, e⟩
  by_cases h : ∃ m, Amt m ∧ IsText m (nums s)
  · obtain ⟨m, ha, ht⟩ := h
    refine ⟨m, 0, ha, .inl ⟨rfl, ht⟩, fun U => (parse_any s U hs).mono (fun e w' ⟨h1, h2⟩ => ⟨?_, h2⟩), fun U => (refparse_any s U hs).mono (fun e w' ⟨h1, h2⟩ => ⟨?_, h2⟩)⟩
    · rcases h1 with ⟨m', ha', ht', e'⟩ | ⟨no, _⟩
      · rw [text_inj m m' ha ha' _ ht ht']; exact e'
      · exact absurd ht (no m ha)
    · obtain ⟨v, m', er, e', av, ⟨ha', ht', rfl⟩ | ⟨no, _, _⟩⟩ := h1
      · rw [← text_inj m m' ha ha' _ ht ht'] at av
        obtain ⟨b, a, n, c, rfl⟩ := am _ _ _ av
        exact ⟨b, a, n, c, e', av⟩
      · exact absurd ht (no m ha)
  · have no : ∀ m, Amt m → ¬ IsText m (nums s) := fun m ha ht => h ⟨m, ha, ht⟩
    refine ⟨0, 3, by unfold Amt; omega, .inr ⟨rfl, rfl⟩, fun U => (parse_any s U hs).mono (fun e w' ⟨h1, h2⟩ => ⟨?_, h2⟩), fun U => (refparse_any s U hs).mono (fun e w' ⟨h1, h2⟩ => ⟨?_, h2⟩)⟩
    · rcases h1 with ⟨m', ha', ht', e'⟩ | ⟨_, e'⟩
      · exact absurd ht' (no m' ha')
      · exact e'
    · obtain ⟨v, m', er, e', av, ⟨ha', ht', rfl⟩ | ⟨_, rfl, rfl⟩⟩ := h1
      · exact absurd ht' (no m' ha')
      · obtain ⟨b, a, n, c, rfl⟩ := am _ _ _ av
        exact ⟨b, a, n, c, e', av⟩
/-- what is made of two words, by both. -/
theorem makes (H L : Int) (hH : 0 ≤ H ∧ H < 18446744073709551616) (hL : 0 ≤ L ∧ L < 18446744073709551616) : ∃ m er, Amt m ∧ ((er = 0 ∧ hiW m = H ∧ loW m = L) ∨ (er = 3 ∧ m = 0)) ∧
    (∀ U : World, Calls Try.prog 20 #[.agg #[.int .u64 H, .int .u64 L]] U fun e w' => e = .returned (.tuple #[.agg #[.int .u64 (hiW m), .int .u64 (loW m)], .int .i64 er]) ∧ Below U.heap.size U w') ∧
    (∀ U : World, Calls Try.prog 21 #[.agg #[.int .u64 H, .int .u64 L]] U fun e w' => (∃ b a n c, e = .returned (.tuple #[.agg #[.bool b, .slice a n c], .int .i64 er]) ∧ Am w' (.agg #[.bool b, .slice a n c]) m) ∧ Below U.heap.size U w') := by
  have am : ∀ (w' : World) v m, Am w' v m → ∃ b a n c, v = .agg #[.bool b, .slice a n c] := fun w' v m h => by
    obtain ⟨u, e, hb⟩ := h
    obtain ⟨a, n, c, rfl, _⟩ := bn_form hb
    exact ⟨_, a, n, c, e⟩
  by_cases h : H = 9223372036854775808 ∧ L = 0
  · refine ⟨0, 3, by unfold Amt; omega, .inr ⟨rfl, rfl⟩, fun U => ?_, fun U => (reffrom_any H L U hH hL).mono (fun e w' ⟨h1, h2⟩ => ⟨?_, h2⟩)⟩
    · obtain ⟨rfl, rfl⟩ := h
      exact fromWords_no U
    · obtain ⟨v, m', er, e', av, ⟨_, _, rfl, rfl⟩ | ⟨no, _, _⟩⟩ := h1
      · obtain ⟨b, a, n, c, rfl⟩ := am _ _ _ av
        exact ⟨b, a, n, c, e', av⟩
      · exact absurd h no
  · have hw : hiW (sgn H L) = H ∧ loW (sgn H L) = L := by unfold sgn hiW loW; split <;> omega
    refine ⟨sgn H L, 0, by unfold Amt sgn; split <;> omega, .inl ⟨rfl, hw.1, hw.2⟩, fun U => ?_, fun U => (reffrom_any H L U hH hL).mono (fun e w' ⟨h1, h2⟩ => ⟨?_, h2⟩)⟩
    · rw [hw.1, hw.2]
      exact fromWords_yes H L U h
    · obtain ⟨v, m', er, e', av, ⟨q1, q2, _, _⟩ | ⟨_, rfl, rfl⟩⟩ := h1
      · exact absurd ⟨q1, q2⟩ h
      · obtain ⟨b, a, n, c, rfl⟩ := am _ _ _ av
        exact ⟨b, a, n, c, e', av⟩
end Go.Proofs.Ythikjpccmplbiaa.Dm
