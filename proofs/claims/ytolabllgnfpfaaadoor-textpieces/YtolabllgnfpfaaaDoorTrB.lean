/-
  Readers of lines: what they hold; NewReader, Waiting, drop.
-/
import Derived.Test.YtolabllgnfpfaaaDoorTrA
import Derived.ArgAppend
namespace Go.Proofs.YtolabllgnfpfaaaDoor
open Go.RowKit Go.Deep Go.Lib Go.Shelf Go.Sort
set_option linter.unusedVariables false
set_option linter.unusedSimpArgs false

def Oct (l : List UInt8) : Prop := True
def Bs (w : World) (b o : Nat) (xs : List UInt8) : Prop := ∀ i (h : i < xs.length), w.cell? ⟨b, o + i, none⟩ = some (.int .u8 (xs[i].toNat : Int))
def bv (xs : List UInt8) : List Value := byteCells xs
theorem bv_len (xs : List UInt8) : (bv xs).length = xs.length := by simp [bv, byteCells]
theorem bv_append (xs ys : List UInt8) : bv (xs ++ ys) = bv xs ++ bv ys := byteCells_append xs ys
theorem bv_one (xs : List UInt8) : ∀ v ∈ bv xs, v.oneCell' = true := by
  intro u hu
  simp only [bv, byteCells, List.mem_map] at hu
  obtain ⟨c, _, rfl⟩ := hu
  rfl
theorem bv_get (ys : List UInt8) (i : Nat) (hi : i < ys.length) : (bv ys)[i]? = some (.int .u8 (ys[i].toNat : Int)) := by simp [bv, byteCells, hi]
theorem bs_sb {w : World} {b o : Nat} {xs : List UInt8} (h : Bs w b o xs) : Sb w (some ⟨b, o, none⟩) xs := fun i hi => ⟨b, o, rfl, h i hi⟩
theorem sb_bs {w : World} {b o : Nat} {xs : List UInt8} (h : Sb w (some ⟨b, o, none⟩) xs) : Bs w b o xs := fun i hi => by
  obtain ⟨b', o', e, hc⟩ := h i hi
  obtain ⟨rfl, rfl⟩ : b = b' ∧ o = o' := by simpa using e
  exact hc
theorem bs_to {w w' : World} {b o : Nat} {xs : List UInt8} (h : Bs w b o xs) (hb : Below w.heap.size w w') : Bs w' b o xs := fun i hi => (hb.cell (cell_lt (h i hi))).trans (h i hi)
theorem blk_to {w w' : World} {n b : Nat} (hb : Below n w w') (h : b < n) : w'.heap[b]? = w.heap[b]? := hb.block b h
theorem bal {w w' : World} (h : Below w.heap.size w w') (o : Obj) : Below w.heap.size w (w'.alloc o) := h.alloc h.size o
/-- what a reader holds. -/
def Held (w : World) (base : Nat) (hv : Value) (ys : List UInt8) : Prop :=
  (ys = [] ∧ hv = .slice none 0 0) ∨ ∃ g o cap cur, hv = .slice (some ⟨g, o, none⟩) ys.length cap ∧ base ≤ g ∧ w.heap[g]? = some (.cells cur 5 (0, 0)) ∧ o + cap ≤ cur.size ∧ ys.length ≤ cap ∧ cap ≤ maxLen ∧ Bs w g o ys
theorem Held.to {w w' : World} {base : Nat} {hv : Value} {ys : List UInt8} (h : Held w base hv ys) (hb : Below w.heap.size w w') : Held w' base hv ys := by
  rcases h with h | ⟨g, o, cap, cur, e, hbg, hg, r1, r2, r3, hB⟩
  · exact Or.inl h
  · exact Or.inr ⟨g, o, cap, cur, e, hbg, (hb.block g (Array.getElem?_eq_some_iff.1 hg).1).trans hg, r1, r2, r3, bs_to hB hb⟩
theorem Held.form {w : World} {base : Nat} {hv : Value} {ys : List UInt8} (h : Held w base hv ys) : ∃ p c, hv = .slice p ys.length c := by
  rcases h with ⟨rfl, rfl⟩ | ⟨g, o, cap, cur, e, _⟩
  · exact ⟨_, _, rfl⟩
  · exact ⟨_, _, e⟩
def RdG (base : Nat) (w : World) (R : Nat) (ys : List UInt8) (hv : Value) : Prop := base ≤ R ∧ Oct ys ∧ w.heap[R]? = some (.cells #[hv] 51 (0, 0)) ∧ Held w base hv ys
theorem RdG.to {w w' : World} {base R : Nat} {ys : List UInt8} {hv : Value} (h : RdG base w R ys hv) (hb : Below w.heap.size w w') : RdG base w' R ys hv := by
  obtain ⟨h0, ho, h1, h2⟩ := h
  exact ⟨h0, ho, (hb.block R (Array.getElem?_eq_some_iff.1 h1).1).trans h1, h2.to hb⟩
theorem RdG.put {w : World} {base R : Nat} {hv : Value} (zs : List UInt8) (hR : base ≤ R) (h1 : w.heap[R]? = some (.cells #[hv] 51 (0, 0))) (ho : Oct zs) (hv' : Value) (h2 : Held w base hv' zs) : RdG base (w.setCell ⟨R, 0, none⟩ hv') R zs hv' := by
  refine ⟨hR, ho, ?_, ?_⟩
  · rw [heap_setCell_same w R 0 _ 51 _ h1]
    simp
  · rcases h2 with h | ⟨g, o, cap, cur, e, hbg, hg, r1, r2, r3, hB⟩
    · exact Or.inl h
    · have hne : ¬ g = R := by
        intro e2
        rw [e2, h1] at hg
        simp at hg
      refine Or.inr ⟨g, o, cap, cur, e, hbg, ?_, r1, r2, r3, ?_⟩
      · rw [heap_setCell_other _ _ _ _ (by show g ≠ R; exact hne)]; exact hg
      · intro i hi
        rw [World.cell?_setCell_other _ _ _ _ (fun e2 => hne (by have := congrArg Addr.block e2; exact this.symm))]
        exact hB i hi
theorem setCells_heap (b : Nat) (t : TypeId) : ∀ (vs : List Value) (o : Nat) (w : World) (cur : Array Value), w.heap[b]? = some (.cells cur t (0, 0)) → ∃ cur', (w.setCells b o vs).heap[b]? = some (.cells cur' t (0, 0)) ∧ cur'.size = cur.size
  | [], _, w, cur, h => ⟨cur, h, rfl⟩
  | v :: vs, o, w, cur, h => by
    obtain ⟨c, h1, h2⟩ := setCells_heap b t vs (o + 1) (w.setCell ⟨b, o, none⟩ v) _ (heap_setCell_same w b o _ t v h)
    exact ⟨c, h1, by rw [h2]; simp⟩
theorem setCells_other (b b' : Nat) (hb : ¬ b' = b) : ∀ (vs : List Value) (o : Nat) (w : World), (w.setCells b o vs).heap[b']? = w.heap[b']?
  | [], _, w => rfl
  | v :: vs, o, w => (setCells_other b b' hb vs (o + 1) _).trans (heap_setCell_other _ _ _ _ hb)
theorem below_setCells {base b : Nat} (hb : base ≤ b) {w0 : World} : ∀ (vs : List Value) (o : Nat) (w : World), Below base w0 w → Below base w0 (w.setCells b o vs)
  | [], _, w, h => h
  | v :: vs, o, w, h => below_setCells hb vs (o + 1) _ (h.setCell hb _)
theorem owns_low {base base' : Nat} {w : World} {e : TypeId} {size : Nat} {v : Value} {n : Nat} {xs : List Value} (h : w.ownsRow base e size v n xs) (hb : base' ≤ base) : w.ownsRow base' e size v n xs :=
  ⟨h.1, h.2.imp id fun ⟨g, cap, cur, e1, e2, r⟩ => ⟨g, cap, cur, e1, Nat.le_trans hb e2, r⟩⟩
theorem held_owns {base : Nat} {w : World} {v : Value} {n : Nat} {zs : List UInt8} (h : w.ownsRow base 5 1 v n (bv zs)) (hn : n = zs.length) : Held w base v zs := by
  subst hn
  rcases h.2 with ⟨rfl, h0⟩ | ⟨g, cap, cur, rfl, hbg, hg, hnc, hcm, hcs, _⟩
  · exact Or.inl ⟨List.length_eq_zero_iff.1 h0, rfl⟩
  · refine Or.inr ⟨g, 0, cap, cur, rfl, hbg, hg, by omega, hnc, hcm, ?_⟩
    intro i hi
    have := h.cells (g := g) rfl i (.int .u8 (zs[i].toNat : Int)) (bv_get _ i hi)
    rw [Addr.add_mid] at this
    exact this
theorem own_new {w : World} {base : Nat} {e : TypeId} {size : Nat} {v : Value} {n : Nat} {xs : List Value} (h : w.ownsRow base e size v n xs) : ∀ g, v.ownBlock = some g → base ≤ g := fun g hg => (h.lt g hg).1
set_option maxHeartbeats 400000 in
theorem rwait_any (base : Nat) (w : World) (R : Nat) (ys : List UInt8) (hv : Value) (h : RdG base w R ys hv) :
    Calls Tryd.prog 6 #[.pointer (some ⟨R, 0, none⟩)] w fun e w' => e = .returned (.int .i64 (ys.length : Nat)) ∧ w' = w := by
  obtain ⟨h0, ho, h1, h2⟩ := h
  obtain ⟨p, c, rfl⟩ := h2.form
  have hc : w.cell? ⟨R, 0, none⟩ = some (.slice p ys.length c) := by rw [cell_of_row w R 0 _ _ _ h1]; rfl
  clear h1 h2
  go_enter Tryd.func6, Tryd.ntmps6
  go_wp2
  go_ret
  exact ⟨rfl, rfl⟩

set_option maxHeartbeats 400000 in
theorem rnew_any (w : World) :
    Calls Tryd.prog 5 #[] w fun e w' => e = .returned (.pointer (some ⟨w.heap.size, 0, none⟩)) ∧ RdG w.heap.size w' w.heap.size [] (.slice none 0 0) ∧ Below w.heap.size w w' ∧ w'.heap.size = w.heap.size + 1 := by
  go_enter Tryd.func5, Tryd.ntmps5
  go_wp2
  go_ret
  exact ⟨rfl, ⟨Nat.le_refl _, trivial, heap_alloc_new _ _, Or.inl ⟨rfl, rfl⟩⟩, bal (Below.refl _ _) _, by simp⟩

set_option maxHeartbeats 1000000 in
set_option maxRecDepth 100000 in
theorem rdropG (base : Nat) (w : World) (R : Nat) (ys : List UInt8) (n : Nat) (hv : Value) (h : RdG base w R ys hv) (hn : n ≤ ys.length) (hy : 0 < ys.length) (hm : ys.length < 9223372036854775808) :
    Calls Tryd.prog 18 #[.pointer (some ⟨R, 0, none⟩), .int .i64 (n : Nat)] w fun e w' => e = .returned (.tuple #[]) ∧ (∃ hv', RdG base w' R (ys.drop n) hv' ∧ (hv'.ownBlock = hv.ownBlock ∨ hv'.ownBlock = none)) ∧ Below base w w' ∧ w.heap.size ≤ w'.heap.size ∧ ∀ b, ¬ b = R → w'.heap[b]? = w.heap[b]? := by
  obtain ⟨h0, ho, h1, h2⟩ := h
  have hb0 : ∀ v, Below base w (w.setCell ⟨R, 0, none⟩ v) := fun v => (Below.refl _ _).setCell h0 _
  rcases h2 with ⟨rfl, rfl⟩ | ⟨g, o, cap, cur, rfl, hbg, hg, r1, r2, r3, hB⟩
  · simp at hy
  have hc : w.cell? ⟨R, 0, none⟩ = some (.slice (some ⟨g, o, none⟩) ys.length cap) := by rw [cell_of_row w R 0 _ _ _ h1]; rfl
  have hf : w.frozen? ⟨R, 0, none⟩ = false := frozen_of_row w R 0 _ _ h1
  have n0 : (0 : Int) ≤ (n : Int) := by omega
  have n1 : (n : Int) ≤ (ys.length : Int) := by omega
  have n2 : (ys.length : Int) ≤ (cap : Int) := by omega
  have hh : Held w base (.slice (some ⟨g, o + n, none⟩) (ys.length - n) (cap - n)) (ys.drop n) := by
    refine Or.inr ⟨g, o + n, cap - n, cur, by simp, hbg, hg, by omega, by simp; omega, by omega, ?_⟩
    intro i hi
    have h3 := hB (n + i) (by simp at hi; omega)
    rw [Nat.add_assoc, h3]
    simp
  have P1 := hid (RdG.put (ys.drop n) h0 h1 trivial _ hh)
  have row : ∀ v, (w.setCell ⟨R, 0, none⟩ v).heap[R]? = some (.cells #[v] 51 (0, 0)) := fun v => by rw [heap_setCell_same w R 0 _ 51 _ h1]; simp
  have HC1 := hid (show ∀ v, (w.setCell ⟨R, 0, none⟩ v).cell? ⟨R, 0, none⟩ = some v from fun v => by rw [cell_of_row _ R 0 _ _ _ (row v)]; rfl)
  have HF1 := hid (show ∀ v, (w.setCell ⟨R, 0, none⟩ v).frozen? ⟨R, 0, none⟩ = false from fun v => frozen_of_row _ R 0 _ _ (row v))
  have HB1 := hid hb0
  have HB2 := hid (show ∀ v u, Below base w ((w.setCell ⟨R, 0, none⟩ v).setCell ⟨R, 0, none⟩ u) from fun v u => (hb0 v).setCell h0 _)
  have P2 := hid (show ∀ v, ys.drop n = [] → RdG base ((w.setCell ⟨R, 0, none⟩ v).setCell ⟨R, 0, none⟩ (.slice none 0 0)) R (ys.drop n) (.slice none 0 0) from fun v hnil => RdG.put (ys.drop n) h0 (row v) trivial (.slice none 0 0) (Or.inl ⟨hnil, rfl⟩))
  have HO1 := hid (show ∀ v b, ¬ b = R → (w.setCell ⟨R, 0, none⟩ v).heap[b]? = w.heap[b]? from fun v b hb => heap_setCell_other _ _ _ _ hb)
  have HO2 := hid (show ∀ v u b, ¬ b = R → ((w.setCell ⟨R, 0, none⟩ v).setCell ⟨R, 0, none⟩ u).heap[b]? = w.heap[b]? from fun v u b hb => (heap_setCell_other _ _ _ _ hb).trans (heap_setCell_other _ _ _ _ hb))
  clear hh hb0 h1 hg hB ho h0 hbg row
  by_cases he : n = ys.length
  · have e1 : (((ys.length - n : Nat) : Int) == 0) = true := by simp; omega
    have HNIL := hid (show ys.drop n = [] from List.drop_eq_nil_of_le (by omega))
    by_cases hcp : n = cap
    · have z1 : cap - n = 0 := by omega
      have z2 : ys.length - n = 0 := by omega
      have hc1 := HC1.out (.slice (some ⟨g, o, none⟩) 0 0)
      have hf1 := HF1.out (.slice (some ⟨g, o, none⟩) 0 0)
      clear e1
      go_enter Tryd.func18, Tryd.ntmps18
      go_wp2
      all_goals go_end0
      all_goals exact ⟨rfl, ⟨_, P2.out _ HNIL.out, Or.inr rfl⟩, HB2.out _ _, by simp, HO2.out _ _⟩
    · have z1 : ¬ (cap - n = 0) := by omega
      have z3 : (n : Int) < (cap : Int) := by omega
      have hc1 := HC1.out (.slice (some ⟨g, o + n, none⟩) (ys.length - n) (cap - n))
      have hf1 := HF1.out (.slice (some ⟨g, o + n, none⟩) (ys.length - n) (cap - n))
      go_enter Tryd.func18, Tryd.ntmps18
      go_wp2
      all_goals go_end0
      all_goals exact ⟨rfl, ⟨_, P2.out _ HNIL.out, Or.inr rfl⟩, HB2.out _ _, by simp, HO2.out _ _⟩
  · have e1 : (((ys.length - n : Nat) : Int) == 0) = false := by simp; omega
    have z1 : ¬ (cap - n = 0) := by omega
    have z3 : (n : Int) < (cap : Int) := by omega
    have hc1 := HC1.out (.slice (some ⟨g, o + n, none⟩) (ys.length - n) (cap - n))
    clear he
    go_enter Tryd.func18, Tryd.ntmps18
    go_wp2
    all_goals go_end0
    all_goals exact ⟨rfl, ⟨_, P1.out, Or.inl rfl⟩, HB1.out _, by simp, HO1.out _⟩

end Go.Proofs.YtolabllgnfpfaaaDoor
