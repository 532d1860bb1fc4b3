/-
  Tracks: Feed.
-/
import Derived.Test.YtffgcdhhjboppaaDoorStC
import Derived.Laws.AppendOwnNone
namespace Go.Proofs.YtffgcdhhjboppaaDoor
open Go.RowKit Go.Deep Crc
set_option linter.unusedVariables false
set_option linter.unusedSimpArgs false

set_option maxHeartbeats 1000000 in
set_option maxRecDepth 100000 in
theorem left_only (g cap : Nat) (v : Value) (xs : List Nat) (w0 w : World) (hn : xs.length ≤ 140737488351232) (hM : Mine w0 w g cap (xs.length + 5) (xs ++ [1, 2, 3, 4, 5])) (hS : Sx w v xs) :
    Calls Tryd.prog 12 #[.slice (some ⟨g, 0, none⟩) (xs.length + 5) cap, v] w fun e w' => e = .returned (.bool true) ∧ Below w0.heap.size w w' ∧ w.heap.size ≤ w'.heap.size ∧ ∀ b, ¬ b = g → w'.heap[b]? = w.heap[b]? := by
  have cv1 : (convert 22 9 (.slice (some ⟨g, 0, none⟩) (xs.length + 5) cap)).run Tryd.prog w = .ok (.string (txt (xs ++ [1, 2, 3, 4, 5]))) w :=
    conv_bytes w g 0 cap (xs ++ [1, 2, 3, 4, 5]) (xs.length + 5) (by simp) (fun i hi => by
      have := hM.cells (g := g) rfl i (.int .u8 (((xs ++ [1, 2, 3, 4, 5])[i] : Nat) : Int)) (bv_get _ i hi)
      rw [Addr.add_mid] at this
      exact this)
  have cv2 := conv_sx w v xs hS
  have HM := hid hM
  clear hM hS
  have hsz := txt_size xs
  have hsz2 : ¬ (9223372036854775807 < (txt xs).size + 5) := by omega
  have hq := txt_append xs
  rcases HM.out.2 with ⟨h, _⟩ | ⟨g', cap', cur, h, hbg, hg, hnc, hcm, hcs, _⟩
  · simp at h
  simp only [Value.slice.injEq, Option.some.injEq, Addr.mk.injEq, and_true, true_and] at h
  obtain ⟨rfl, rfl⟩ := h
  have HG := hid hg
  have hcap : cur.size = cap := by omega
  clear hg HM hcs
  go_enter Tryd.func12, Tryd.ntmps12
  go_wp2_with fail
  go_loopw [6] (fun iv wr => ∃ (i : Nat) (cu : Array Value), i ≤ xs.length + 5 ∧ iv = .int .i64 i ∧ cu.size = cap ∧ Hid (wr.heap[g]? = some (.cells cu 5 (0, 0))) ∧ Hid (Below w0.heap.size w wr) ∧ Hid (w.heap.size ≤ wr.heap.size ∧ ∀ b, ¬ b = g → wr.heap[b]? = w.heap[b]?)) (fun iv _ => xs.length + 5 - (intOf iv).toNat)
  case atStart => exact ⟨0, cur, by omega, rfl, hcap, HG.out, Below.refl _ _, hid ⟨Nat.le_refl _, fun _ _ => rfl⟩⟩
  case round =>
    obtain ⟨i, cu, hi, rfl, hc, HR, HB, HE⟩ := hrel
    by_cases hlt : i < xs.length + 5
    · obtain ⟨y0, hy0⟩ : ∃ y0, wr.cell? ⟨g, i, none⟩ = some y0 := by
        rw [cell_of_row wr g i _ 5 _ HR.out]
        exact ⟨_, Array.getElem?_eq_getElem (by omega)⟩
      have hfz : wr.frozen? ⟨g, i, none⟩ = false := frozen_of_row wr g i _ 5 HR.out
      have i0 : (0 : Int) ≤ (i : Int) := by omega
      have i1 : (i : Int) < (xs.length : Int) + 5 := by omega
      have HN := hid (show (wr.setCell ⟨g, i, none⟩ (.int .u8 238)).heap[g]? = some (.cells (cu.setIfInBounds i (.int .u8 238)) 5 (0, 0)) from heap_setCell_same wr g i _ 5 _ HR.out)
      have HB2 := hid (show Below w0.heap.size w (wr.setCell ⟨g, i, none⟩ (.int .u8 238)) from HB.out.setCell hbg _)
      have HE2 := hid (show w.heap.size ≤ (wr.setCell ⟨g, i, none⟩ (.int .u8 238)).heap.size ∧ ∀ b, ¬ b = g → (wr.setCell ⟨g, i, none⟩ (.int .u8 238)).heap[b]? = w.heap[b]? from ⟨by simpa using HE.out.1, fun b hb => (heap_setCell_other _ _ _ _ hb).trans (HE.out.2 b hb)⟩)
      have hc2 : (cu.setIfInBounds i (.int .u8 238)).size = cap := by simpa using hc
      clear HR HB HE
      go_wp2
      go_roundw
      case rel => exact ⟨i + 1, _, by omega, by go_num, hc2, HN.out, HB2.out, HE2⟩
      case measure => simp [intOf]; omega
    · have hi5 : i = xs.length + 5 := by omega
      subst hi5
      go_wp2
      go_ret
      exact ⟨rfl, HB.out, HE.out⟩

theorem Sx.pc {w : World} {v : Value} {xs : List Nat} (h : Sx w v xs) : (xs = [] ∧ v = .slice none 0 0) ∨ ∃ ad c, v = .slice (some ad) xs.length c ∧ ∀ j u, (bv xs)[j]? = some u → w.cell? (ad.add j) = some u := by
  rcases h with h | ⟨rfl, ad, cap, rfl⟩ | ⟨b, o, cap, rfl, h⟩
  · exact Or.inl h
  · exact Or.inr ⟨ad, cap, rfl, fun j u hj => by simp [bv] at hj⟩
  · exact Or.inr ⟨_, cap, rfl, bs_add h⟩
theorem owns_kept {w w' : World} {base : Nat} {e : TypeId} {size : Nat} {g n cap : Nat} {xs : List Value} (h : w.ownsRow base e size (.slice (some ⟨g, 0, none⟩) n cap) n xs) (hk : w'.heap[g]? = w.heap[g]?) : w'.ownsRow base e size (.slice (some ⟨g, 0, none⟩) n cap) n xs := by
  refine ⟨h.1, ?_⟩
  rcases h.2 with ⟨e1, _⟩ | ⟨g', cap', cur, e1, hb, hg, r⟩
  · cases e1
  · have : g' = g := by
      simp only [Value.slice.injEq, Option.some.injEq, Addr.mk.injEq, and_true, true_and] at e1
      exact e1.1.symm
    subst this
    exact Or.inr ⟨g', cap', cur, e1, hb, hk.trans hg, r⟩
theorem sx_owns {w : World} {base g n cap : Nat} {zs : List Nat} (h : w.ownsRow base 5 1 (.slice (some ⟨g, 0, none⟩) n cap) n (bv zs)) (hn : n = zs.length) : Sx w (.slice (some ⟨g, 0, none⟩) n cap) zs := by
  subst hn
  refine Or.inr (Or.inr ⟨g, 0, cap, rfl, ?_⟩)
  intro i hi
  have := h.cells (g := g) rfl i (.int .u8 ((zs[i] : Nat) : Int)) (bv_get _ i hi)
  rw [Addr.add_mid] at this
  exact this
theorem owns_room {w : World} {base g n cap : Nat} {e : TypeId} {size : Nat} {xs : List Value} (h : w.ownsRow base e size (.slice (some ⟨g, 0, none⟩) n cap) n xs) : base ≤ g ∧ g < w.heap.size ∧ n ≤ cap := by
  rcases h.2 with ⟨e1, _⟩ | ⟨g', cap', cur, e1, hb, hg, r, _⟩
  · cases e1
  · simp only [Value.slice.injEq, Option.some.injEq, Addr.mk.injEq, and_true, true_and] at e1
    obtain ⟨rfl, rfl⟩ := e1
    exact ⟨hb, (Array.getElem?_eq_some_iff.1 hg).1, r⟩
/-- bytes behind a slice of one's own, as one step of a region that draws. -/
theorem step_append_sx {ops : Array Oper} {o : Oper} {a : Act} {w : World} {K : Act → World → Prop} {Q : Exit → Act → World → Prop} {E : Prop} (hg : o.guard = none) (s x : Operand)
    (ho : o.op = .call { callee := .builtin .append, args := #[s, x], argTypes := #[22, 22] }) (base g n c : Nat) (zs : List Nat) (hs : a.eval s = .slice (some ⟨g, 0, none⟩) n c) (hown : w.ownsRow base 5 1 (.slice (some ⟨g, 0, none⟩) n c) n (bv zs))
    (u : Value) (xs : List Nat) (hx : a.eval x = u) (hu : Sx w u xs) (hn : n + xs.length ≤ 140737488355328) (hbase : base ≤ w.heap.size) (m : Nat) (rs : List Nat) (hm : m = n + xs.length) (hr : rs = zs ++ xs)
    (h : ∀ g' c' w', w'.ownsRow base 5 1 (.slice (some ⟨g', 0, none⟩) m c') m (bv rs) → Below base w w' → K (a.put o.dst (.slice (some ⟨g', 0, none⟩) m c')) w') :
    if Region.wanted o (yielded ops a.tmps) = true then Oper.wp Tryd.prog o a w K Q else E := by
  subst hm hr
  have hw : Region.wanted o (yielded ops a.tmps) = true := by simp [Region.wanted, hg]
  rw [if_pos hw]
  obtain ⟨i0, hi, hz0, hz1, hz2⟩ := info_parts info5all
  rcases hu.pc with ⟨rfl, rfl⟩ | ⟨ad, c1, rfl, hc⟩
  · have hrun := run_append_owned_none (P := Tryd.prog) (w := w) base 22 o.type 5 i0 1 Tryd.underlying22 hi _ n _ hown
    have hk : K (a.put o.dst (.slice (some ⟨g, 0, none⟩) n c)) w := by simpa using h g c w (by simpa using hown) (Below.refl _ _)
    unfold Oper.wp
    simp [execOp, ho, resolve, invoke, builtin, hs, hx, hrun, Result.andThen]
    exact hk
  · refine wp_append_own w s x 22 ho base 5 i0 (.int .u8 0) 1 1 Tryd.underlying22 hi hz0 hz1 hz2 rfl (by decide) _ n _ hs hown ad xs.length c1 (bv xs) hx (by simp [bv_len]) hc (bv_one _) (by unfold maxLen; omega) (by omega) hbase ?_
    intro v' w' h1 h2 h3
    have hb : Below base w w' := (Below.refl base w).grown h2 hbase (fun j hj => (hown.lt j hj).1)
    rcases h1.2 with ⟨rfl, _⟩ | ⟨g', c', cur, rfl, _⟩
    · exact absurd (h3.1 rfl).1 (by simp)
    · exact h g' c' w' (by rw [bv_append]; exact h1) hb
end Go.Proofs.YtffgcdhhjboppaaDoor
