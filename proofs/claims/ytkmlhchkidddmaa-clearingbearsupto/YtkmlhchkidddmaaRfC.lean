/-
  The document's Share: what its loops keep.
-/
import Derived.Test.YtkmlhchkidddmaaRfB
import Derived.Test.YtkmlhchkidddmaaShF
namespace Go.Proofs.Ytkmlhchkidddmaa.Ss
open Go.RowKit Go.Deep BigM
set_option linter.unusedVariables false
set_option linter.unusedSimpArgs false
set_option maxHeartbeats 8000000
set_option maxRecDepth 100000
attribute [local go_sem ↓] Go.wp_at_zero Go.wp_at_succ
theorem infoR : (Try.prog.info? 45).map (fun i => (i.zero, i.size, i.bytes)) = some (some (.slice none 0 0), 1, 24) := by kernel_rfl
theorem own_grown {base : Nat} {w w' : World} {e e' : TypeId} {size n : Nat} {v : Value} {xs : List Value} {r : Option Nat} (h : w.ownsRow base e size v n xs) (hg : w.grownBy w' r) (he : e ≠ e') (hr : ∀ g, r = some g → ∃ cur, w.heap[g]? = some (.cells cur e' (0, 0))) : w'.ownsRow base e size v n xs :=
  own_same h (fun g hg' => by
    obtain ⟨c, ec⟩ := own_ty h hg'
    refine hg.block g (row_lt ec) (fun e9 => ?_)
    obtain ⟨c2, ec2⟩ := hr g e9.symm
    rw [ec] at ec2
    injection ec2 with z
    injection z with _ z2
    exact he z2)
theorem below_app9 {w W U : World} {e : TypeId} {v : Value} {n : Nat} {xs : List Value} (hb : Below w.heap.size w W) (hv : W.ownsRow w.heap.size e 1 v n xs) (hg : W.grownBy U v.ownBlock) : Below w.heap.size w U :=
  ⟨hg.os.trans hb.os, hg.tape.trans hb.tape, hg.output.trans hb.output, Nat.le_trans hb.size hg.size, fun i hi => (hg.block i (Nat.lt_of_lt_of_le hi hb.size) (fun e9 => by
    obtain ⟨_, ⟨rfl, _⟩ | ⟨g, c, cur, rfl, r1, _⟩⟩ := hv
    · cases e9
    · simp [Value.ownBlock] at e9; omega)).trans (hb.block i hi)⟩
/-- the rests so far, in whole numbers. -/
def RsI (w : World) (rs : List Int) (i : Nat) (us : List Value) : Prop := us.length = i ∧ ∀ j, j < i → ∃ u, us[j]? = some u ∧ Bn w u (gd rs j)
theorem RsI.start (w : World) (rs : List Int) : RsI w rs 0 [] := ⟨rfl, fun j hj => by omega⟩
theorem RsI.dg {w w' : World} {rs : List Int} {i : Nat} {us : List Value} (h : RsI w rs i us) (hd : Dg w w') : RsI w' rs i us := ⟨h.1, fun j hj => by obtain ⟨u, e, b⟩ := h.2 j hj; exact ⟨u, e, Bn.dg b hd⟩⟩
theorem RsI.next {w : World} {rs : List Int} {i : Nat} {us : List Value} {u : Value} (h : RsI w rs i us) (hu : Bn w u (gd rs i)) : RsI w rs (i + 1) (us ++ [u]) := ⟨by simp [h.1], fun j hj => by
  by_cases c : j < i
  · obtain ⟨u', e, b⟩ := h.2 j c
    exact ⟨u', by rw [List.getElem?_append_left (by rw [h.1]; exact c)]; exact e, b⟩
  · obtain rfl : j = i := by omega
    exact ⟨u, by rw [List.getElem?_append_right (by rw [h.1]; exact Nat.le_refl _), h.1]; simp, hu⟩⟩
theorem ivw_next {l : List Int} {i : Nat} {p : Int} (hi : i < l.length) (hp : gd l i = p) : ivw (l.take i) ++ [Value.int .u64 p] = ivw (l.take (i + 1)) := by
  subst hp
  unfold ivw
  rw [List.take_add_one, List.map_append, gd_get hi, List.getElem?_eq_getElem hi]
  rfl
theorem bn_one {w : World} {u : Value} {n : Int} (h : Bn w u n) : u.oneCell' = true := by
  obtain ⟨ds, h1, _⟩ := h
  rcases h1 with ⟨rfl, _⟩ | ⟨b, o, cap, rfl, _⟩ <;> rfl
theorem bn_form {w : World} {u : Value} {n : Int} (h : Bn w u n) : ∃ p m c, u = .slice p m c := by
  obtain ⟨ds, h1, _⟩ := h
  rcases h1 with ⟨rfl, _⟩ | ⟨b, o, cap, rfl, _⟩
  · exact ⟨_, _, _, rfl⟩
  · exact ⟨_, _, _, rfl⟩
theorem rd_one {w : World} (v : Value) (t : TypeId) : ∀ ad, (some ⟨w.heap.size, 0, none⟩ : Option Addr) = some ad → ∀ j u, ([v] : List Value)[j]? = some u → (w.alloc (.cells #[v] t)).cell? (ad.add j) = some u := fun ad e j u hj => by
  injection e with e
  subst e
  have hl := (List.getElem?_eq_some_iff.1 hj).1
  simp at hl
  subst hl
  simp at hj
  subst hj
  rw [Addr.add_lit, row_cell (World.alloc_heap_new _ _)]
  rfl
theorem word_bd {A x : Int} (hA : Word A) (hx : Word x) : 0 ≤ A * x ∧ A * x < pw 900 := by
  have h1 : A * x ≤ 18446744073709551615 * x := Int.mul_le_mul_of_nonneg_right (by have := hA.2; omega) hx.1
  have h2 := hx.2
  have h3 := pw3
  exact ⟨Int.mul_nonneg hA.1 hx.1, by omega⟩
theorem wordV_of {x : Int} (h : x < 18446744073709551616) : wordV x = x ∧ wordE x = 0 := by
  unfold wordV wordE
  rw [if_pos h, if_pos h]
  exact ⟨rfl, rfl⟩
theorem own_addr {base : Nat} {w : World} {e : TypeId} {q : Option Addr} {n c : Nat} {xs : List Value} (h0 : 0 < n) (h : w.ownsRow base e 1 (.slice q n c) n xs) : ∃ g, q = some ⟨g, 0, none⟩ ∧ base ≤ g := by
  obtain ⟨_, ⟨e1, e2⟩ | ⟨g, c', cur, e1, r1, _⟩⟩ := h
  · omega
  · exact ⟨g, (Value.slice.inj e1).1, r1⟩
theorem own_row {base : Nat} {w : World} {e : TypeId} {g n c : Nat} {xs : List Value} (h : w.ownsRow base e 1 (.slice (some ⟨g, 0, none⟩) n c) n xs) : ∃ cur, w.heap[g]? = some (.cells cur e (0, 0)) := own_ty h rfl
theorem own_at {base : Nat} {w : World} {e : TypeId} {g n c : Nat} {xs : List Value} (h : w.ownsRow base e 1 (.slice (some ⟨g, 0, none⟩) n c) n xs) {j : Nat} {u : Value} (hj : xs[j]? = some u) : w.cell? ⟨g, j, none⟩ = some u := by
  have := (own_cells h).2 j u hj
  rwa [Addr.add_lit, Nat.zero_add] at this
theorem own_frz {base : Nat} {w : World} {e : TypeId} {g n c : Nat} {xs : List Value} (h : w.ownsRow base e 1 (.slice (some ⟨g, 0, none⟩) n c) n xs) (j : Nat) : w.frozen? ⟨g, j, none⟩ = false := by
  obtain ⟨cur, hc⟩ := own_row h
  exact row_frz hc j
theorem own_set {base : Nat} {w : World} {e : TypeId} {g n c : Nat} {xs : List Value} (h : w.ownsRow base e 1 (.slice (some ⟨g, 0, none⟩) n c) n xs) (i : Nat) (v : Value) : (w.setCell ⟨g, i, none⟩ v).ownsRow base e 1 (.slice (some ⟨g, 0, none⟩) n c) n (xs.set i v) := by
  obtain ⟨h1, ⟨e1, e2⟩ | ⟨g', c', cur, e1, r1, r2, r3, r4, r5, r6⟩⟩ := h
  · cases (Value.slice.inj e1).1
  · obtain ⟨e3, _, rfl⟩ := Value.slice.inj e1
    injection e3 with e3
    injection e3 with e3
    subst e3
    refine ⟨by rw [List.length_set]; exact h1, .inr ⟨g, c, _, rfl, r1, heap_setCell_same w g i cur e v r2, r3, r4, by simpa using r5, ?_⟩⟩
    rw [← r6, Array.toList_setIfInBounds, List.take_set]
theorem own_other {base : Nat} {w : World} {e : TypeId} {g g' n c i : Nat} {v : Value} {xs : List Value} (h : w.ownsRow base e 1 (.slice (some ⟨g, 0, none⟩) n c) n xs) (hne : g ≠ g') : (w.setCell ⟨g', i, none⟩ v).ownsRow base e 1 (.slice (some ⟨g, 0, none⟩) n c) n xs :=
  own_same h (fun k hk => by
    obtain ⟨cur, hc⟩ := own_row h
    cases hk
    exact (Kp.set w g' i v).obj g (row_lt hc) hne)
theorem own_ne {base : Nat} {w : World} {e e' : TypeId} {g g' n c n' c' : Nat} {xs xs' : List Value} (h : w.ownsRow base e 1 (.slice (some ⟨g, 0, none⟩) n c) n xs) (h' : w.ownsRow base e' 1 (.slice (some ⟨g', 0, none⟩) n' c') n' xs') (he : e ≠ e') : g ≠ g' := fun e9 => by
  subst e9
  obtain ⟨a, ha⟩ := own_row h
  obtain ⟨b, hb⟩ := own_row h'
  rw [ha] at hb
  injection hb with z
  injection z with _ z2
  exact he z2
theorem below_set {H : Nat} {w W : World} {g i : Nat} {v : Value} (h : Below H w W) (hg : H ≤ g) : Below H w (W.setCell ⟨g, i, none⟩ v) := h.setCell hg _
theorem RsI.set {w : World} {R : List Int} {n j : Nat} {us : List Value} {u : Value} (h : RsI w R n us) (hl : R.length = n) (hj : j < n) (hu : Bn w u 0) : RsI w (R.set j 0) n (us.set j u) := ⟨by rw [List.length_set]; exact h.1, fun i hi => by
  rw [gd_set (by omega)]
  by_cases c : i = j
  · subst c
    rw [if_pos rfl]
    exact ⟨u, by rw [List.getElem?_set_self (by rw [h.1]; exact hi)], hu⟩
  · rw [if_neg c]
    obtain ⟨u', e, b⟩ := h.2 i hi
    exact ⟨u', by rw [List.getElem?_set_ne (fun e => c e.symm)]; exact e, b⟩⟩
theorem ivw_get {l : List Int} {i : Nat} (h : i < l.length) : (ivw l)[i]? = some (.int .u64 (gd l i)) := by
  unfold ivw
  rw [List.getElem?_map, List.getElem?_eq_getElem h, gd_get h]
  rfl
theorem ivw_set (l : List Int) (i : Nat) (v : Int) : (ivw l).set i (.int .u64 v) = ivw (l.set i v) := by
  unfold ivw
  rw [List.map_set]
theorem Pk.bd {rs pl R : List Int} {t i : Nat} {S : Int} (h : Pk rs pl R t) (hr : ∀ q ∈ rs, 0 ≤ q ∧ q < S) (hi : i < rs.length) : 0 ≤ gd R i ∧ gd R i < S := by
  have h9 := hr _ (gd_mem hi)
  rw [h.at_ i hi]
  by_cases c : (i : Int) ∈ pl.take t
  · rw [if_pos c]; omega
  · rw [if_neg c]; exact h9
end Go.Proofs.Ytkmlhchkidddmaa.Ss
