/-
  goes: All and Back, each twice. Written by mkl.py.
-/
import Derived.Test.YtcbfgodknonefaaDoorBnK
namespace Go.Proofs.YtcbfgodknonefaaDoor
open Go.RowKit Go.Deep Bt
set_option linter.unusedVariables false
set_option maxRecDepth 100000
set_option maxHeartbeats 8000000
attribute [local go_sem] Oper.semAt_some

theorem Lr.same {w w' : World} {p : Option Addr} {l : List Int} (h : Lr w p l) (e : ∀ g, p = some ⟨g, 0, none⟩ → g < w.heap.size → w'.heap[g]? = w.heap[g]?) : Lr w' p l := fun k hk => by
  obtain ⟨g, hp, hc⟩ := h k hk
  exact ⟨g, hp, (cell_same (e g hp (cell_lt hc))).trans hc⟩
theorem Lr.lt {w : World} {p : Option Addr} {l : List Int} (h : Lr w p l) {k : Nat} (hk : k < l.length) {g : Nat} (hp : p = some ⟨g, 0, none⟩) : g < w.heap.size := by
  obtain ⟨g', hp', hc⟩ := h k hk
  rw [hp] at hp'
  cases hp'
  exact cell_lt hc
theorem heap_put_ne (w : World) (j : Nat) (o : Obj) {k : Nat} (h : k ≠ j) : (w.putObj j o).heap[k]? = w.heap[k]? := by
  have := (grownBy_putObj' w j o).block
  by_cases hk : k < w.heap.size
  · exact this k hk (by simp; exact h)
  · have s : (w.putObj j o).heap.size = w.heap.size := by simp [World.putObj]
    rw [Array.getElem?_eq_none (by omega), Array.getElem?_eq_none (by omega)]
/-- what stands between two goings. -/
structure Gq (b : Nat) (w : World) (S : Nat → Bool) (p : Option Addr) (cap : Nat) (l : List Int) (k x1 x2 A B : Int) (C : Nat) (W : World) : Prop where
  ko : Ko b w W
  x : W.heap[w.heap.size]? = some (.cells #[.pointer (some ⟨b, 0, none⟩), .slice p l.length cap] 32 (0, 0))
  o : W.heap[w.heap.size + 1]? = some (.cells #[.int .i64 k, .int .i64 x1, .int .i64 x2, .int .i64 A, .int .i64 B] 35 (0, 0))
  r : W.heap[w.heap.size + 1 + 1]? = some (.cells #[.bool false] 4 (0, 0))
  c : W.heap[C]? = some (.cells #[.pointer (some ⟨b, 0, none⟩)] 23 (0, 0))
  bm : Bm W b S
  lr : Lr W p l
theorem Gq.step {b : Nat} {w : World} {S S' : Nat → Bool} {p : Option Addr} {cap : Nat} {l : List Int} {k x1 x2 A B : Int} {C N T : Nat} {W W' : World} (h : Gq b w S p cap l k x1 x2 A B C W) (hk : K3 b N T W W') (hb : Bm W' b S')
    (bw : b < w.heap.size) (hN : w.heap.size + 3 ≤ N) (hT : w.heap.size + 3 ≤ T) (hC : C ≠ b ∧ C ≠ N ∧ C ≠ T) (hg : ∀ g, p = some ⟨g, 0, none⟩ → 0 < l.length → g ≠ b ∧ g < w.heap.size) : Gq b w S' p cap l k x1 x2 A B C W' := by
  have lt : ∀ {j : Nat} {o : Obj}, W.heap[j]? = some o → j < W.heap.size := fun h => (Array.getElem?_eq_some_iff.1 h).1
  refine ⟨⟨hk.os.trans h.ko.os, hk.tape.trans h.ko.tape, hk.output.trans h.ko.output, Nat.le_trans h.ko.size hk.size, fun j hj hjb => ?_⟩, (hk.obj _ (lt h.x) (by omega) (by omega) (by omega)).trans h.x, (hk.obj _ (lt h.o) (by omega) (by omega) (by omega)).trans h.o, (hk.obj _ (lt h.r) (by omega) (by omega) (by omega)).trans h.r, (hk.obj _ (lt h.c) hC.1 hC.2.1 hC.2.2).trans h.c, hb, ?_⟩
  · have := h.ko.size
    exact (hk.obj j (by omega) hjb (by omega) (by omega)).trans (h.ko.obj j hj hjb)
  · intro i hi
    obtain ⟨g, hp, hc⟩ := h.lr i hi
    have := hg g hp (by omega)
    exact ⟨g, hp, (cell_same (hk.obj g (cell_lt hc) this.1 (by omega) (by omega))).trans hc⟩
theorem goes_end {b D1 D2 : Nat} {w W : World} {S : Nat → Bool} (R : Nat) (ko : Ko b w W) (hb : Bm W b S) (bw : b < w.heap.size) (r : W.heap[R]? = some (.cells #[.bool false] 4 (0, 0))) (hR : w.heap.size ≤ R)
    (d1 : W.heap[D1]? = some (.deferred (some []))) (d2 : W.heap[D2]? = some (.deferred (some []))) (h1 : w.heap.size ≤ D1) (h2 : w.heap.size ≤ D2) (ne : D1 ≠ D2) (Wf : World) (hW : (W.alloc (.cells #[.int .i64 2] 3)).setCell ⟨R, 0, none⟩ (.bool true) = Wf) :
    Wf.heap[D2]? = some (.deferred (some [])) ∧ (Wf.putObj D2 (.deferred none)).heap[D1]? = some (.deferred (some [])) ∧ ((Wf.putObj D2 (.deferred none)).putObj D1 (.deferred none)).cell? ⟨R, 0, none⟩ = some (.bool true) ∧ Ko b w ((Wf.putObj D2 (.deferred none)).putObj D1 (.deferred none)) ∧ Bm ((Wf.putObj D2 (.deferred none)).putObj D1 (.deferred none)) b S ∧ (W.alloc (.cells #[.int .i64 2] 3)).frozen? ⟨R, 0, none⟩ = false ∧ (W.alloc (.cells #[.int .i64 2] 3)).cell? ⟨R, 0, none⟩ = some (.bool false) := by
  have lt : ∀ {j : Nat} {o : Obj}, W.heap[j]? = some o → j < W.heap.size := fun h => (Array.getElem?_eq_some_iff.1 h).1
  have ne1 : D1 ≠ R := fun e => by subst e; rw [d1] at r; cases r
  have ne2 : D2 ≠ R := fun e => by subst e; rw [d2] at r; cases r
  have a1 : ∀ j, j < W.heap.size → (W.alloc (.cells #[.int .i64 2] 3)).heap[j]? = W.heap[j]? := fun j hj => Below.heap_alloc _ _ _ hj
  have r1 := (a1 R (lt r)).trans r
  have e1 : ∀ j, j < W.heap.size → j ≠ R → Wf.heap[j]? = W.heap[j]? := fun j hj hr => by
    rw [← hW, heap_setCell_other _ _ _ _ (by show j ≠ R; exact hr)]; exact a1 j hj
  have rf : Wf.heap[R]? = some (.cells #[.bool true] 4 (0, 0)) := by rw [← hW, Go.heap_setCell_same _ _ _ _ _ _ r1]; rfl
  have f1 := (e1 D2 (lt d2) ne2).trans d2
  have f2 : (Wf.putObj D2 (.deferred none)).heap[D1]? = some (.deferred (some [])) := by
    rw [heap_put_ne _ _ _ ne]; exact (e1 D1 (lt d1) ne1).trans d1
  have e2 : ∀ j, j ≠ D2 → j ≠ D1 → ((Wf.putObj D2 (.deferred none)).putObj D1 (.deferred none)).heap[j]? = Wf.heap[j]? := fun j h2 h1 => by
    rw [heap_put_ne _ _ _ h1, heap_put_ne _ _ _ h2]
  have f3 : ((Wf.putObj D2 (.deferred none)).putObj D1 (.deferred none)).heap[R]? = some (.cells #[.bool true] 4 (0, 0)) := (e2 R (Ne.symm ne2) (Ne.symm ne1)).trans rf
  have g1 := World.grownBy_alloc W (.cells #[.int .i64 2] 3) none
  have g2 := grownBy_setCell' (W.alloc (.cells #[.int .i64 2] 3)) R (.bool true)
  rw [hW] at g2
  have g3 := grownBy_putObj' Wf D2 (.deferred none)
  have g4 := grownBy_putObj' (Wf.putObj D2 (.deferred none)) D1 (.deferred none)
  have sz := ko.size
  refine ⟨f1, f2, row_cell f3 0, ⟨?_, ?_, ?_, ?_, fun j hj hjb => ?_⟩, ?_, frozen_of_row _ R 0 _ _ r1, row_cell r1 0⟩
  · rw [g4.os, g3.os, g2.os, g1.os]; exact ko.os
  · rw [g4.tape, g3.tape, g2.tape, g1.tape]; exact ko.tape
  · rw [g4.output, g3.output, g2.output, g1.output]; exact ko.output
  · exact Nat.le_trans sz (Nat.le_trans g1.size (Nat.le_trans g2.size (Nat.le_trans g3.size g4.size)))
  · rw [e2 j (by omega) (by omega), e1 j (by omega) (by omega)]; exact ko.obj j hj hjb
  · exact hb.same (by rw [e2 b (by omega) (by omega), e1 b hb.lt (by omega)])
theorem goes9 (b : Nat) (S : Nat → Bool) (p : Option Addr) (cap : Nat) (l : List Int) (hS : Tl S l) (x1 x2 A B : Int) (w : World) (hB : Bm w b S) (hL : Laid w) (h0 : 0 < b) (hl : Lr w p l) (hg : ∀ g, p = some ⟨g, 0, none⟩ → g ≠ b) :
    Calls Tryd.prog 40 #[.agg #[.pointer (some ⟨b, 0, none⟩), .slice p l.length cap], .agg #[.int .i64 9, .int .i64 x1, .int .i64 x2, .int .i64 A, .int .i64 B]] w fun e w' => e = .returned (.bool true) ∧ Ko b w w' ∧ Bm w' b S := by
  have HAL := hid (all_any b)
  have NF := hid nilf
  have HB := hid hB
  have HL := hid hL
  have HLR := hid hl
  have HG := hid hg
  have bw := hB.lt
  have HS := hid hS
  clear hB hL hl hg hS
  refine (callsIn_wide (n := 5)).1 ?_
  refine callsIn_of_wp_marks Tryd.func40 rfl trivial ?_ rfl
  simp only [Tryd.ntmps40, List.size_toArray, List.length_cons, List.length_nil, Nat.reduceAdd, Nat.reduceSub, Array.replicate_succ, Array.replicate_zero, List.push_toArray, List.append_toArray, List.nil_append, List.cons_append]
  have n1 : (1 : Nat) ≤ 5 := by omega
  gi_wp2_with (first | (refine ⟨trivial, ?_⟩; gi_at_call 50; refine (callsIn_wide.2 (HAL.out _)).mono ?_; rintro e w' ⟨rfl, rfl⟩))
  rw [NF.out]
  gi_wp2
  refine wpIn_loop_rounds 3 ?_
  rw [roundsIn_succ]
  gi_wp2
  obtain ⟨W0, hW0⟩ : ∃ W0, (((((((w.alloc (.cells #[.pointer (some ⟨b, 0, none⟩), .slice p l.length cap] 32)).alloc (.cells #[.int .i64 9, .int .i64 x1, .int .i64 x2, .int .i64 A, .int .i64 B] 35)).alloc (.cells #[.bool false] 4)).alloc (.cells #[.pointer (some ⟨b, 0, none⟩)] 23)).alloc (.cells #[.int .i64 0] 3)).alloc (.cells #[.int .i64 0] 3)).alloc (.cells #[.bool false] 4)) = W0 := ⟨_, rfl⟩
  have A0 : W0.heap.size = w.heap.size + 7 := by rw [← hW0]; simp
  have B0 : Below w.heap.size w W0 := by
    rw [← hW0]
    exact (((((((Below.refl _ w).alloc (by simp) _).alloc (by simp; try omega) _).alloc (by simp; try omega) _).alloc (by simp; try omega) _).alloc (by simp; try omega) _).alloc (by simp; try omega) _).alloc (by simp; try omega) _
  have qX : W0.heap[(w.heap.size)]? = some (.cells #[.pointer (some ⟨b, 0, none⟩), .slice p l.length cap] 32 (0, 0)) := by
    rw [← hW0]
    rw [Below.heap_alloc _ _ _ (by simp; try omega)]
    rw [Below.heap_alloc _ _ _ (by simp; try omega)]
    rw [Below.heap_alloc _ _ _ (by simp; try omega)]
    rw [Below.heap_alloc _ _ _ (by simp; try omega)]
    rw [Below.heap_alloc _ _ _ (by simp; try omega)]
    rw [Below.heap_alloc _ _ _ (by simp; try omega)]
    have := World.alloc_heap_new w (.cells #[.pointer (some ⟨b, 0, none⟩), .slice p l.length cap] 32)
    simpa using this
  have qO : W0.heap[(w.heap.size + 1)]? = some (.cells #[.int .i64 9, .int .i64 x1, .int .i64 x2, .int .i64 A, .int .i64 B] 35 (0, 0)) := by
    rw [← hW0]
    rw [Below.heap_alloc _ _ _ (by simp; try omega)]
    rw [Below.heap_alloc _ _ _ (by simp; try omega)]
    rw [Below.heap_alloc _ _ _ (by simp; try omega)]
    rw [Below.heap_alloc _ _ _ (by simp; try omega)]
    rw [Below.heap_alloc _ _ _ (by simp; try omega)]
    have := World.alloc_heap_new (w.alloc (.cells #[.pointer (some ⟨b, 0, none⟩), .slice p l.length cap] 32)) (.cells #[.int .i64 9, .int .i64 x1, .int .i64 x2, .int .i64 A, .int .i64 B] 35)
    simpa using this
  have qR : W0.heap[(w.heap.size + 1 + 1)]? = some (.cells #[.bool false] 4 (0, 0)) := by
    rw [← hW0]
    rw [Below.heap_alloc _ _ _ (by simp; try omega)]
    rw [Below.heap_alloc _ _ _ (by simp; try omega)]
    rw [Below.heap_alloc _ _ _ (by simp; try omega)]
    rw [Below.heap_alloc _ _ _ (by simp; try omega)]
    have := World.alloc_heap_new ((w.alloc (.cells #[.pointer (some ⟨b, 0, none⟩), .slice p l.length cap] 32)).alloc (.cells #[.int .i64 9, .int .i64 x1, .int .i64 x2, .int .i64 A, .int .i64 B] 35)) (.cells #[.bool false] 4)
    simpa using this
  have qC : W0.heap[(w.heap.size + 1 + 1 + 1)]? = some (.cells #[.pointer (some ⟨b, 0, none⟩)] 23 (0, 0)) := by
    rw [← hW0]
    rw [Below.heap_alloc _ _ _ (by simp; try omega)]
    rw [Below.heap_alloc _ _ _ (by simp; try omega)]
    rw [Below.heap_alloc _ _ _ (by simp; try omega)]
    have := World.alloc_heap_new (((w.alloc (.cells #[.pointer (some ⟨b, 0, none⟩), .slice p l.length cap] 32)).alloc (.cells #[.int .i64 9, .int .i64 x1, .int .i64 x2, .int .i64 A, .int .i64 B] 35)).alloc (.cells #[.bool false] 4)) (.cells #[.pointer (some ⟨b, 0, none⟩)] 23)
    simpa using this
  have qV : W0.heap[(w.heap.size + 1 + 1 + 1 + 1)]? = some (.cells #[.int .i64 0] 3 (0, 0)) := by
    rw [← hW0]
    rw [Below.heap_alloc _ _ _ (by simp; try omega)]
    rw [Below.heap_alloc _ _ _ (by simp; try omega)]
    have := World.alloc_heap_new ((((w.alloc (.cells #[.pointer (some ⟨b, 0, none⟩), .slice p l.length cap] 32)).alloc (.cells #[.int .i64 9, .int .i64 x1, .int .i64 x2, .int .i64 A, .int .i64 B] 35)).alloc (.cells #[.bool false] 4)).alloc (.cells #[.pointer (some ⟨b, 0, none⟩)] 23)) (.cells #[.int .i64 0] 3)
    simpa using this
  have qN : W0.heap[(w.heap.size + 1 + 1 + 1 + 1 + 1)]? = some (.cells #[.int .i64 0] 3 (0, 0)) := by
    rw [← hW0]
    rw [Below.heap_alloc _ _ _ (by simp; try omega)]
    have := World.alloc_heap_new (((((w.alloc (.cells #[.pointer (some ⟨b, 0, none⟩), .slice p l.length cap] 32)).alloc (.cells #[.int .i64 9, .int .i64 x1, .int .i64 x2, .int .i64 A, .int .i64 B] 35)).alloc (.cells #[.bool false] 4)).alloc (.cells #[.pointer (some ⟨b, 0, none⟩)] 23)).alloc (.cells #[.int .i64 0] 3)) (.cells #[.int .i64 0] 3)
    simpa using this
  have qT : W0.heap[(w.heap.size + 1 + 1 + 1 + 1 + 1 + 1)]? = some (.cells #[.bool false] 4 (0, 0)) := by
    rw [← hW0]
    have := World.alloc_heap_new ((((((w.alloc (.cells #[.pointer (some ⟨b, 0, none⟩), .slice p l.length cap] 32)).alloc (.cells #[.int .i64 9, .int .i64 x1, .int .i64 x2, .int .i64 A, .int .i64 B] 35)).alloc (.cells #[.bool false] 4)).alloc (.cells #[.pointer (some ⟨b, 0, none⟩)] 23)).alloc (.cells #[.int .i64 0] 3)).alloc (.cells #[.int .i64 0] 3)) (.cells #[.bool false] 4)
    simpa using this
  have lr0 : Lr W0 p l := HLR.out.same (fun g _ hgl => B0.block g hgl)
  rw [hW0]
  clear hW0
  refine rng9_f b (w.heap.size + 1 + 1 + 1) (w.heap.size) (w.heap.size + 1) (w.heap.size + 1 + 1) (w.heap.size + 1 + 1 + 1 + 1) (w.heap.size + 1 + 1 + 1 + 1 + 1) (w.heap.size + 1 + 1 + 1 + 1 + 1 + 1) cap p l S HS.out x1 x2 A B rfl rfl _ _ _ _ _ _ _ _ _ _ _ _ _ _ _ _ _ _ _ _ _ _ _ _ _ _ _ _ _ _ _ _ _ _ _ _ _ _ _ _ _ _ _ _ _ _ _ _ _ _ _ _ _ _ _ _ _ _ _ _ _ _ _ _ _ _ _ _ _ _ _ _ _ _ _ _ _ _ _ _ _ _ _ _ _ _ _ _ _ _ _ [] W0 (HB.out.on B0) (HL.out.on B0 (by omega)) h0 qX qO qV qN qT qC lr0 (fun g hp hlen => ?hg0) (by omega) (by omega) (by omega) (by omega) (by omega) (by omega) (by omega) (by omega) ?hex ?hrest
  case hg0 =>
    have := HLR.out.lt hlen hp
    have := HG.out g hp
    omega
  case hex =>
    intro a' W h
    exact wpIn_exit h
  case hrest =>
    intro D n tb S' W hD hk c1 c2 hb' hcase hn hd
    have HG2 := hid (show ∀ g, p = some ⟨g, 0, none⟩ → 0 < l.length → g ≠ b ∧ g < w.heap.size from fun g hp hlen => ⟨HG.out g hp, HLR.out.lt hlen hp⟩)
    have g0 : Gq b w S p cap l 9 x1 x2 A B (w.heap.size + 1 + 1 + 1) W0 := ⟨Ko.of B0, qX, qO, qR, qC, HB.out.on B0, lr0⟩
    have g1 := g0.step hk hb' bw (by omega) (by omega) ⟨by omega, by omega, by omega⟩ HG2.out
    have r1V := (hk.obj (w.heap.size + 1 + 1 + 1 + 1) (by omega) (by omega) (by omega) (by omega)).trans qV
    have mX0 := row_cell g1.x 0
    have mX1 := row_cell g1.x 1
    have mO3 := row_cell g1.o 3
    have mO4 := row_cell g1.o 4
    have mV := row_cell r1V 0
    have mN := row_cell c1 0
    have mT := row_cell c2 0
    simp only [List.getElem?_toArray, List.getElem?_cons_zero, List.getElem?_cons_succ] at mX0 mX1 mO3 mO4 mV mN mT
    rcases hcase with ⟨rfl, rfl⟩ | ⟨rfl, hSS⟩
    · have CT := hid (turn_any b (trn S A) (.slice p l.length cap) A W hb' rfl)
      by_cases hnl : n = l.length
      · subst hnl
        gi_wp2_with (refine ⟨trivial, ?_⟩; gi_at_call 52; refine (callsIn_wide.2 CT.out).mono ?_; clear CT; rintro e W2 ⟨rfl, hk2, hm2⟩; rw [trn_trn] at hm2; have g2 := g1.step (Ko.k3 (N := w.heap.size + 100) (T := w.heap.size + 100) hk2) hm2 bw (by omega) (by omega) ⟨by omega, by omega, by omega⟩ HG2.out; have gV := (hk2.obj _ (Array.getElem?_eq_some_iff.1 r1V).1 (by omega)).trans r1V; have gN := (hk2.obj _ (Array.getElem?_eq_some_iff.1 c1).1 (by omega)).trans c1; have gD := (hk2.obj D (Array.getElem?_eq_some_iff.1 hd).1 (by omega)).trans hd; have lX1 := row_cell g2.x 1; have lO4 := row_cell g2.o 4; have lV := row_cell gV 0; have lN := row_cell gN 0; simp only [List.getElem?_toArray, List.getElem?_cons_zero, List.getElem?_cons_succ] at lX1 lO4 lV lN)
        have q2 := g2.ko.size
        have bD := (Array.getElem?_eq_some_iff.1 gD).1
        have bV1 := (Array.getElem?_eq_some_iff.1 gV).1
        rw [roundsIn_succ]
        gi_wp2
        obtain ⟨W3, hW3⟩ : ∃ W3, ((W2.alloc (.cells #[.int .i64 1] 3)).alloc (.cells #[.int .i64 0] 3)).alloc (.cells #[.bool false] 4) = W3 := ⟨_, rfl⟩
        have z3 : W3.heap.size = W2.heap.size + 3 := by rw [← hW3]; simp
        have B3 : Below W2.heap.size W2 W3 := by rw [← hW3]; exact (((Below.refl _ W2).alloc (by simp) _).alloc (by simp) _).alloc (by simp; try omega) _
        have sV : W3.heap[W2.heap.size]? = some (.cells #[.int .i64 1] 3 (0, 0)) := by
          rw [← hW3, Below.heap_alloc _ _ _ (by simp; try omega), Below.heap_alloc _ _ _ (by simp; try omega)]; exact World.alloc_heap_new _ _
        have sN : W3.heap[W2.heap.size + 1]? = some (.cells #[.int .i64 0] 3 (0, 0)) := by
          rw [← hW3, Below.heap_alloc _ _ _ (by simp; try omega)]
          have := World.alloc_heap_new (W2.alloc (.cells #[.int .i64 1] 3)) (.cells #[.int .i64 0] 3)
          simpa using this
        have sT : W3.heap[W2.heap.size + 1 + 1]? = some (.cells #[.bool false] 4 (0, 0)) := by
          rw [← hW3]
          have := World.alloc_heap_new ((W2.alloc (.cells #[.int .i64 1] 3)).alloc (.cells #[.int .i64 0] 3)) (.cells #[.bool false] 4)
          simpa using this
        have g3 := g2.step (k3_below (b := b) (N := W2.heap.size + 1) (T := W2.heap.size + 1 + 1) B3) (g2.bm.on B3) bw (by omega) (by omega) ⟨by omega, by omega, by omega⟩ HG2.out
        have gD3 := (B3.block D bD).trans gD
        rw [hW3]
        clear hW3
        refine rng9_s b (w.heap.size + 1 + 1 + 1) w.heap.size (w.heap.size + 1) (w.heap.size + 1 + 1) W2.heap.size (W2.heap.size + 1) (W2.heap.size + 1 + 1) cap p l S HS.out x1 x2 A _ rfl rfl _ _ _ _ _ _ _ _ _ _ _ _ _ _ _ _ _ _ _ _ _ _ _ _ _ _ _ _ _ _ _ _ _ _ _ _ _ _ _ _ _ _ _ _ _ _ _ _ _ _ _ _ _ _ _ _ _ _ _ _ _ _ _ _ _ _ _ _ _ _ _ _ _ _ _ _ _ _ _ _ _ _ _ _ _ _ _ _ _ _ _ [_] W3 g3.bm (HL.out.same (g3.ko.obj 0 (by omega) (by omega))) h0 g3.x g3.o sV sN sT g3.c g3.lr (fun g hp hlen => ?hg1) (by omega) (by omega) (by omega) (by omega) (by omega) (by omega) (by omega) (by omega) ?hex1 ?hrest1
        case hg1 =>
          have := HG2.out g hp hlen
          omega
        case hex1 =>
          intro a' W h
          exact wpIn_exit h
        case hrest1 =>
          intro D2 n2 tb2 S2 W4 hD2 hk2 c1 c2 hb2 hcase2 hn2 hd2
          obtain ⟨rfl, hSS2⟩ := hcase2
          obtain rfl := hSS2.symm
          subst hn2
          have g4 := g3.step hk2 hb2 bw (by omega) (by omega) ⟨by omega, by omega, by omega⟩ HG2.out
          have gD4 := (hk2.obj D (by omega) (fun e => by subst e; have := g3.bm; obtain ⟨row, hrow, _⟩ := this; rw [gD3] at hrow; cases hrow) (by omega) (by omega)).trans gD3
          have gV4 := (hk2.obj W2.heap.size (by omega) (by omega) (by omega) (by omega)).trans sV
          have eX1 := row_cell g4.x 1
          have eO4 := row_cell g4.o 4
          have eV := row_cell gV4 0
          have eN := row_cell c1 0
          have eT := row_cell c2 0
          simp only [List.getElem?_toArray, List.getElem?_cons_zero, List.getElem?_cons_succ] at eX1 eO4 eV eN eT
          obtain ⟨Wf, hWf⟩ : ∃ Wf, (W4.alloc (.cells #[.int .i64 2] 3)).setCell ⟨w.heap.size + 1 + 1, 0, none⟩ (.bool true) = Wf := ⟨_, rfl⟩
          obtain ⟨t1, t2, t3, t4, t5, t6, t7⟩ := goes_end (w.heap.size + 1 + 1) g4.ko g4.bm bw g4.r (by omega) gD4 hd2 (by omega) (by omega) (by omega) Wf hWf
          have FIN := hid (And.intro t1 (And.intro t2 (And.intro t3 (And.intro t4 t5))))
          clear t1 t2 t3 t4 t5 g4 g3 g2 gD gD3 gD4 gV gV4 hd2 hd hk2 hk c1 c2 hb2 sV sN sT B3
          gi_wp2
          rw [roundsIn_succ]
          gi_wp2
          refine ⟨by simp, .inl ⟨_, _, rfl, run_takeDeferred FIN.out.1, ?_⟩⟩
          refine ⟨by simp, .inl ⟨_, _, rfl, run_takeDeferred FIN.out.2.1, ?_⟩⟩
          have h3 := FIN.out.2.2.1
          refine ⟨.bool true, ?_, rfl, FIN.out.2.2.2.1, FIN.out.2.2.2.2⟩
          simp [results, Tryd.f40, go_sem, h3]
      · have hnB : (n : Int) = B := by omega
        have hnl2 : ¬ ((n : Int) = (l.length : Int)) := by omega
        subst hnB
        gi_wp2_with (refine ⟨trivial, ?_⟩; gi_at_call 52; refine (callsIn_wide.2 CT.out).mono ?_; clear CT; rintro e W2 ⟨rfl, hk2, hm2⟩; rw [trn_trn] at hm2; have g2 := g1.step (Ko.k3 (N := w.heap.size + 100) (T := w.heap.size + 100) hk2) hm2 bw (by omega) (by omega) ⟨by omega, by omega, by omega⟩ HG2.out; have gV := (hk2.obj _ (Array.getElem?_eq_some_iff.1 r1V).1 (by omega)).trans r1V; have gN := (hk2.obj _ (Array.getElem?_eq_some_iff.1 c1).1 (by omega)).trans c1; have gD := (hk2.obj D (Array.getElem?_eq_some_iff.1 hd).1 (by omega)).trans hd; have lX1 := row_cell g2.x 1; have lO4 := row_cell g2.o 4; have lV := row_cell gV 0; have lN := row_cell gN 0; simp only [List.getElem?_toArray, List.getElem?_cons_zero, List.getElem?_cons_succ] at lX1 lO4 lV lN)
        have q2 := g2.ko.size
        have bD := (Array.getElem?_eq_some_iff.1 gD).1
        have bV1 := (Array.getElem?_eq_some_iff.1 gV).1
        rw [roundsIn_succ]
        gi_wp2
        obtain ⟨W3, hW3⟩ : ∃ W3, ((W2.alloc (.cells #[.int .i64 1] 3)).alloc (.cells #[.int .i64 0] 3)).alloc (.cells #[.bool false] 4) = W3 := ⟨_, rfl⟩
        have z3 : W3.heap.size = W2.heap.size + 3 := by rw [← hW3]; simp
        have B3 : Below W2.heap.size W2 W3 := by rw [← hW3]; exact (((Below.refl _ W2).alloc (by simp) _).alloc (by simp) _).alloc (by simp; try omega) _
        have sV : W3.heap[W2.heap.size]? = some (.cells #[.int .i64 1] 3 (0, 0)) := by
          rw [← hW3, Below.heap_alloc _ _ _ (by simp; try omega), Below.heap_alloc _ _ _ (by simp; try omega)]; exact World.alloc_heap_new _ _
        have sN : W3.heap[W2.heap.size + 1]? = some (.cells #[.int .i64 0] 3 (0, 0)) := by
          rw [← hW3, Below.heap_alloc _ _ _ (by simp; try omega)]
          have := World.alloc_heap_new (W2.alloc (.cells #[.int .i64 1] 3)) (.cells #[.int .i64 0] 3)
          simpa using this
        have sT : W3.heap[W2.heap.size + 1 + 1]? = some (.cells #[.bool false] 4 (0, 0)) := by
          rw [← hW3]
          have := World.alloc_heap_new ((W2.alloc (.cells #[.int .i64 1] 3)).alloc (.cells #[.int .i64 0] 3)) (.cells #[.bool false] 4)
          simpa using this
        have g3 := g2.step (k3_below (b := b) (N := W2.heap.size + 1) (T := W2.heap.size + 1 + 1) B3) (g2.bm.on B3) bw (by omega) (by omega) ⟨by omega, by omega, by omega⟩ HG2.out
        have gD3 := (B3.block D bD).trans gD
        rw [hW3]
        clear hW3
        refine rng9_s b (w.heap.size + 1 + 1 + 1) w.heap.size (w.heap.size + 1) (w.heap.size + 1 + 1) W2.heap.size (W2.heap.size + 1) (W2.heap.size + 1 + 1) cap p l S HS.out x1 x2 A _ rfl rfl _ _ _ _ _ _ _ _ _ _ _ _ _ _ _ _ _ _ _ _ _ _ _ _ _ _ _ _ _ _ _ _ _ _ _ _ _ _ _ _ _ _ _ _ _ _ _ _ _ _ _ _ _ _ _ _ _ _ _ _ _ _ _ _ _ _ _ _ _ _ _ _ _ _ _ _ _ _ _ _ _ _ _ _ _ _ _ _ _ _ _ [_] W3 g3.bm (HL.out.same (g3.ko.obj 0 (by omega) (by omega))) h0 g3.x g3.o sV sN sT g3.c g3.lr (fun g hp hlen => ?hg1) (by omega) (by omega) (by omega) (by omega) (by omega) (by omega) (by omega) (by omega) ?hex1 ?hrest1
        case hg1 =>
          have := HG2.out g hp hlen
          omega
        case hex1 =>
          intro a' W h
          exact wpIn_exit h
        case hrest1 =>
          intro D2 n2 tb2 S2 W4 hD2 hk2 c1 c2 hb2 hcase2 hn2 hd2
          obtain ⟨rfl, hSS2⟩ := hcase2
          obtain rfl := hSS2.symm
          subst hn2
          have g4 := g3.step hk2 hb2 bw (by omega) (by omega) ⟨by omega, by omega, by omega⟩ HG2.out
          have gD4 := (hk2.obj D (by omega) (fun e => by subst e; have := g3.bm; obtain ⟨row, hrow, _⟩ := this; rw [gD3] at hrow; cases hrow) (by omega) (by omega)).trans gD3
          have gV4 := (hk2.obj W2.heap.size (by omega) (by omega) (by omega) (by omega)).trans sV
          have eX1 := row_cell g4.x 1
          have eO4 := row_cell g4.o 4
          have eV := row_cell gV4 0
          have eN := row_cell c1 0
          have eT := row_cell c2 0
          simp only [List.getElem?_toArray, List.getElem?_cons_zero, List.getElem?_cons_succ] at eX1 eO4 eV eN eT
          obtain ⟨Wf, hWf⟩ : ∃ Wf, (W4.alloc (.cells #[.int .i64 2] 3)).setCell ⟨w.heap.size + 1 + 1, 0, none⟩ (.bool true) = Wf := ⟨_, rfl⟩
          obtain ⟨t1, t2, t3, t4, t5, t6, t7⟩ := goes_end (w.heap.size + 1 + 1) g4.ko g4.bm bw g4.r (by omega) gD4 hd2 (by omega) (by omega) (by omega) Wf hWf
          have FIN := hid (And.intro t1 (And.intro t2 (And.intro t3 (And.intro t4 t5))))
          clear t1 t2 t3 t4 t5 g4 g3 g2 gD gD3 gD4 gV gV4 hd2 hd hk2 hk c1 c2 hb2 sV sN sT B3
          gi_wp2
          rw [roundsIn_succ]
          gi_wp2
          refine ⟨by simp, .inl ⟨_, _, rfl, run_takeDeferred FIN.out.1, ?_⟩⟩
          refine ⟨by simp, .inl ⟨_, _, rfl, run_takeDeferred FIN.out.2.1, ?_⟩⟩
          have h3 := FIN.out.2.2.1
          refine ⟨.bool true, ?_, rfl, FIN.out.2.2.2.1, FIN.out.2.2.2.2⟩
          simp [results, Tryd.f40, go_sem, h3]
    · obtain rfl := hSS.symm
      obtain ⟨W2, hW2⟩ : ∃ W2, W2 = W := ⟨_, rfl⟩
      subst hW2
      have g2 := g1
      have gV := r1V
      have gD := hd
      by_cases hnl : n = l.length
      · subst hnl
        gi_wp2
        have q2 := g2.ko.size
        have bD := (Array.getElem?_eq_some_iff.1 gD).1
        have bV1 := (Array.getElem?_eq_some_iff.1 gV).1
        rw [roundsIn_succ]
        gi_wp2
        obtain ⟨W3, hW3⟩ : ∃ W3, ((W2.alloc (.cells #[.int .i64 1] 3)).alloc (.cells #[.int .i64 0] 3)).alloc (.cells #[.bool false] 4) = W3 := ⟨_, rfl⟩
        have z3 : W3.heap.size = W2.heap.size + 3 := by rw [← hW3]; simp
        have B3 : Below W2.heap.size W2 W3 := by rw [← hW3]; exact (((Below.refl _ W2).alloc (by simp) _).alloc (by simp) _).alloc (by simp; try omega) _
        have sV : W3.heap[W2.heap.size]? = some (.cells #[.int .i64 1] 3 (0, 0)) := by
          rw [← hW3, Below.heap_alloc _ _ _ (by simp; try omega), Below.heap_alloc _ _ _ (by simp; try omega)]; exact World.alloc_heap_new _ _
        have sN : W3.heap[W2.heap.size + 1]? = some (.cells #[.int .i64 0] 3 (0, 0)) := by
          rw [← hW3, Below.heap_alloc _ _ _ (by simp; try omega)]
          have := World.alloc_heap_new (W2.alloc (.cells #[.int .i64 1] 3)) (.cells #[.int .i64 0] 3)
          simpa using this
        have sT : W3.heap[W2.heap.size + 1 + 1]? = some (.cells #[.bool false] 4 (0, 0)) := by
          rw [← hW3]
          have := World.alloc_heap_new ((W2.alloc (.cells #[.int .i64 1] 3)).alloc (.cells #[.int .i64 0] 3)) (.cells #[.bool false] 4)
          simpa using this
        have g3 := g2.step (k3_below (b := b) (N := W2.heap.size + 1) (T := W2.heap.size + 1 + 1) B3) (g2.bm.on B3) bw (by omega) (by omega) ⟨by omega, by omega, by omega⟩ HG2.out
        have gD3 := (B3.block D bD).trans gD
        rw [hW3]
        clear hW3
        refine rng9_s b (w.heap.size + 1 + 1 + 1) w.heap.size (w.heap.size + 1) (w.heap.size + 1 + 1) W2.heap.size (W2.heap.size + 1) (W2.heap.size + 1 + 1) cap p l S HS.out x1 x2 A _ rfl rfl _ _ _ _ _ _ _ _ _ _ _ _ _ _ _ _ _ _ _ _ _ _ _ _ _ _ _ _ _ _ _ _ _ _ _ _ _ _ _ _ _ _ _ _ _ _ _ _ _ _ _ _ _ _ _ _ _ _ _ _ _ _ _ _ _ _ _ _ _ _ _ _ _ _ _ _ _ _ _ _ _ _ _ _ _ _ _ _ _ _ _ [_] W3 g3.bm (HL.out.same (g3.ko.obj 0 (by omega) (by omega))) h0 g3.x g3.o sV sN sT g3.c g3.lr (fun g hp hlen => ?hg1) (by omega) (by omega) (by omega) (by omega) (by omega) (by omega) (by omega) (by omega) ?hex1 ?hrest1
        case hg1 =>
          have := HG2.out g hp hlen
          omega
        case hex1 =>
          intro a' W h
          exact wpIn_exit h
        case hrest1 =>
          intro D2 n2 tb2 S2 W4 hD2 hk2 c1 c2 hb2 hcase2 hn2 hd2
          obtain ⟨rfl, hSS2⟩ := hcase2
          obtain rfl := hSS2.symm
          subst hn2
          have g4 := g3.step hk2 hb2 bw (by omega) (by omega) ⟨by omega, by omega, by omega⟩ HG2.out
          have gD4 := (hk2.obj D (by omega) (fun e => by subst e; have := g3.bm; obtain ⟨row, hrow, _⟩ := this; rw [gD3] at hrow; cases hrow) (by omega) (by omega)).trans gD3
          have gV4 := (hk2.obj W2.heap.size (by omega) (by omega) (by omega) (by omega)).trans sV
          have eX1 := row_cell g4.x 1
          have eO4 := row_cell g4.o 4
          have eV := row_cell gV4 0
          have eN := row_cell c1 0
          have eT := row_cell c2 0
          simp only [List.getElem?_toArray, List.getElem?_cons_zero, List.getElem?_cons_succ] at eX1 eO4 eV eN eT
          obtain ⟨Wf, hWf⟩ : ∃ Wf, (W4.alloc (.cells #[.int .i64 2] 3)).setCell ⟨w.heap.size + 1 + 1, 0, none⟩ (.bool true) = Wf := ⟨_, rfl⟩
          obtain ⟨t1, t2, t3, t4, t5, t6, t7⟩ := goes_end (w.heap.size + 1 + 1) g4.ko g4.bm bw g4.r (by omega) gD4 hd2 (by omega) (by omega) (by omega) Wf hWf
          have FIN := hid (And.intro t1 (And.intro t2 (And.intro t3 (And.intro t4 t5))))
          clear t1 t2 t3 t4 t5 g4 g3 g2 gD gD3 gD4 gV gV4 hd2 hd hk2 hk c1 c2 hb2 sV sN sT B3
          gi_wp2
          rw [roundsIn_succ]
          gi_wp2
          refine ⟨by simp, .inl ⟨_, _, rfl, run_takeDeferred FIN.out.1, ?_⟩⟩
          refine ⟨by simp, .inl ⟨_, _, rfl, run_takeDeferred FIN.out.2.1, ?_⟩⟩
          have h3 := FIN.out.2.2.1
          refine ⟨.bool true, ?_, rfl, FIN.out.2.2.2.1, FIN.out.2.2.2.2⟩
          simp [results, Tryd.f40, go_sem, h3]
      · have hnB : (n : Int) = B := by omega
        have hnl2 : ¬ ((n : Int) = (l.length : Int)) := by omega
        subst hnB
        gi_wp2
        have q2 := g2.ko.size
        have bD := (Array.getElem?_eq_some_iff.1 gD).1
        have bV1 := (Array.getElem?_eq_some_iff.1 gV).1
        rw [roundsIn_succ]
        gi_wp2
        obtain ⟨W3, hW3⟩ : ∃ W3, ((W2.alloc (.cells #[.int .i64 1] 3)).alloc (.cells #[.int .i64 0] 3)).alloc (.cells #[.bool false] 4) = W3 := ⟨_, rfl⟩
        have z3 : W3.heap.size = W2.heap.size + 3 := by rw [← hW3]; simp
        have B3 : Below W2.heap.size W2 W3 := by rw [← hW3]; exact (((Below.refl _ W2).alloc (by simp) _).alloc (by simp) _).alloc (by simp; try omega) _
        have sV : W3.heap[W2.heap.size]? = some (.cells #[.int .i64 1] 3 (0, 0)) := by
          rw [← hW3, Below.heap_alloc _ _ _ (by simp; try omega), Below.heap_alloc _ _ _ (by simp; try omega)]; exact World.alloc_heap_new _ _
        have sN : W3.heap[W2.heap.size + 1]? = some (.cells #[.int .i64 0] 3 (0, 0)) := by
          rw [← hW3, Below.heap_alloc _ _ _ (by simp; try omega)]
          have := World.alloc_heap_new (W2.alloc (.cells #[.int .i64 1] 3)) (.cells #[.int .i64 0] 3)
          simpa using this
        have sT : W3.heap[W2.heap.size + 1 + 1]? = some (.cells #[.bool false] 4 (0, 0)) := by
          rw [← hW3]
          have := World.alloc_heap_new ((W2.alloc (.cells #[.int .i64 1] 3)).alloc (.cells #[.int .i64 0] 3)) (.cells #[.bool false] 4)
          simpa using this
        have g3 := g2.step (k3_below (b := b) (N := W2.heap.size + 1) (T := W2.heap.size + 1 + 1) B3) (g2.bm.on B3) bw (by omega) (by omega) ⟨by omega, by omega, by omega⟩ HG2.out
        have gD3 := (B3.block D bD).trans gD
        rw [hW3]
        clear hW3
        refine rng9_s b (w.heap.size + 1 + 1 + 1) w.heap.size (w.heap.size + 1) (w.heap.size + 1 + 1) W2.heap.size (W2.heap.size + 1) (W2.heap.size + 1 + 1) cap p l S HS.out x1 x2 A _ rfl rfl _ _ _ _ _ _ _ _ _ _ _ _ _ _ _ _ _ _ _ _ _ _ _ _ _ _ _ _ _ _ _ _ _ _ _ _ _ _ _ _ _ _ _ _ _ _ _ _ _ _ _ _ _ _ _ _ _ _ _ _ _ _ _ _ _ _ _ _ _ _ _ _ _ _ _ _ _ _ _ _ _ _ _ _ _ _ _ _ _ _ _ [_] W3 g3.bm (HL.out.same (g3.ko.obj 0 (by omega) (by omega))) h0 g3.x g3.o sV sN sT g3.c g3.lr (fun g hp hlen => ?hg1) (by omega) (by omega) (by omega) (by omega) (by omega) (by omega) (by omega) (by omega) ?hex1 ?hrest1
        case hg1 =>
          have := HG2.out g hp hlen
          omega
        case hex1 =>
          intro a' W h
          exact wpIn_exit h
        case hrest1 =>
          intro D2 n2 tb2 S2 W4 hD2 hk2 c1 c2 hb2 hcase2 hn2 hd2
          obtain ⟨rfl, hSS2⟩ := hcase2
          obtain rfl := hSS2.symm
          subst hn2
          have g4 := g3.step hk2 hb2 bw (by omega) (by omega) ⟨by omega, by omega, by omega⟩ HG2.out
          have gD4 := (hk2.obj D (by omega) (fun e => by subst e; have := g3.bm; obtain ⟨row, hrow, _⟩ := this; rw [gD3] at hrow; cases hrow) (by omega) (by omega)).trans gD3
          have gV4 := (hk2.obj W2.heap.size (by omega) (by omega) (by omega) (by omega)).trans sV
          have eX1 := row_cell g4.x 1
          have eO4 := row_cell g4.o 4
          have eV := row_cell gV4 0
          have eN := row_cell c1 0
          have eT := row_cell c2 0
          simp only [List.getElem?_toArray, List.getElem?_cons_zero, List.getElem?_cons_succ] at eX1 eO4 eV eN eT
          obtain ⟨Wf, hWf⟩ : ∃ Wf, (W4.alloc (.cells #[.int .i64 2] 3)).setCell ⟨w.heap.size + 1 + 1, 0, none⟩ (.bool true) = Wf := ⟨_, rfl⟩
          obtain ⟨t1, t2, t3, t4, t5, t6, t7⟩ := goes_end (w.heap.size + 1 + 1) g4.ko g4.bm bw g4.r (by omega) gD4 hd2 (by omega) (by omega) (by omega) Wf hWf
          have FIN := hid (And.intro t1 (And.intro t2 (And.intro t3 (And.intro t4 t5))))
          clear t1 t2 t3 t4 t5 g4 g3 g2 gD gD3 gD4 gV gV4 hd2 hd hk2 hk c1 c2 hb2 sV sN sT B3
          gi_wp2
          rw [roundsIn_succ]
          gi_wp2
          refine ⟨by simp, .inl ⟨_, _, rfl, run_takeDeferred FIN.out.1, ?_⟩⟩
          refine ⟨by simp, .inl ⟨_, _, rfl, run_takeDeferred FIN.out.2.1, ?_⟩⟩
          have h3 := FIN.out.2.2.1
          refine ⟨.bool true, ?_, rfl, FIN.out.2.2.2.1, FIN.out.2.2.2.2⟩
          simp [results, Tryd.f40, go_sem, h3]
theorem goes10 (b : Nat) (S : Nat → Bool) (p : Option Addr) (cap : Nat) (l : List Int) (hS : Tl S l) (x1 x2 A B : Int) (w : World) (hB : Bm w b S) (hL : Laid w) (h0 : 0 < b) (hl : Lr w p l) (hg : ∀ g, p = some ⟨g, 0, none⟩ → g ≠ b) :
    Calls Tryd.prog 40 #[.agg #[.pointer (some ⟨b, 0, none⟩), .slice p l.length cap], .agg #[.int .i64 10, .int .i64 x1, .int .i64 x2, .int .i64 A, .int .i64 B]] w fun e w' => e = .returned (.bool true) ∧ Ko b w w' ∧ Bm w' b S := by
  have HAL := hid (all_any b)
  have HBA := hid (back_any b)
  have NF := hid nilf
  have HB := hid hB
  have HL := hid hL
  have HLR := hid hl
  have HG := hid hg
  have bw := hB.lt
  have HS := hid hS
  clear hB hL hl hg hS
  refine (callsIn_wide (n := 5)).1 ?_
  refine callsIn_of_wp_marks Tryd.func40 rfl trivial ?_ rfl
  simp only [Tryd.ntmps40, List.size_toArray, List.length_cons, List.length_nil, Nat.reduceAdd, Nat.reduceSub, Array.replicate_succ, Array.replicate_zero, List.push_toArray, List.append_toArray, List.nil_append, List.cons_append]
  have n1 : (1 : Nat) ≤ 5 := by omega
  gi_wp2_with (first | (refine ⟨trivial, ?_⟩; gi_at_call 50; refine (callsIn_wide.2 (HAL.out _)).mono ?_; rintro e w' ⟨rfl, rfl⟩) | (refine ⟨trivial, ?_⟩; gi_at_call 51; refine (callsIn_wide.2 (HBA.out _)).mono ?_; rintro e w' ⟨rfl, rfl⟩))
  rw [NF.out]
  gi_wp2
  refine wpIn_loop_rounds 3 ?_
  rw [roundsIn_succ]
  gi_wp2
  obtain ⟨W0, hW0⟩ : ∃ W0, ((((((((w.alloc (.cells #[.pointer (some ⟨b, 0, none⟩), .slice p l.length cap] 32)).alloc (.cells #[.int .i64 10, .int .i64 x1, .int .i64 x2, .int .i64 A, .int .i64 B] 35)).alloc (.cells #[.bool false] 4)).alloc (.cells #[.pointer (some ⟨b, 0, none⟩)] 23)).alloc (.cells #[.pointer (some ⟨b, 0, none⟩)] 23)).alloc (.cells #[.int .i64 0] 3)).alloc (.cells #[.int .i64 0] 3)).alloc (.cells #[.bool false] 4)) = W0 := ⟨_, rfl⟩
  have A0 : W0.heap.size = w.heap.size + 8 := by rw [← hW0]; simp
  have B0 : Below w.heap.size w W0 := by
    rw [← hW0]
    exact ((((((((Below.refl _ w).alloc (by simp) _).alloc (by simp; try omega) _).alloc (by simp; try omega) _).alloc (by simp; try omega) _).alloc (by simp; try omega) _).alloc (by simp; try omega) _).alloc (by simp; try omega) _).alloc (by simp; try omega) _
  have qX : W0.heap[(w.heap.size)]? = some (.cells #[.pointer (some ⟨b, 0, none⟩), .slice p l.length cap] 32 (0, 0)) := by
    rw [← hW0]
    rw [Below.heap_alloc _ _ _ (by simp; try omega)]
    rw [Below.heap_alloc _ _ _ (by simp; try omega)]
    rw [Below.heap_alloc _ _ _ (by simp; try omega)]
    rw [Below.heap_alloc _ _ _ (by simp; try omega)]
    rw [Below.heap_alloc _ _ _ (by simp; try omega)]
    rw [Below.heap_alloc _ _ _ (by simp; try omega)]
    rw [Below.heap_alloc _ _ _ (by simp; try omega)]
    have := World.alloc_heap_new w (.cells #[.pointer (some ⟨b, 0, none⟩), .slice p l.length cap] 32)
    simpa using this
  have qO : W0.heap[(w.heap.size + 1)]? = some (.cells #[.int .i64 10, .int .i64 x1, .int .i64 x2, .int .i64 A, .int .i64 B] 35 (0, 0)) := by
    rw [← hW0]
    rw [Below.heap_alloc _ _ _ (by simp; try omega)]
    rw [Below.heap_alloc _ _ _ (by simp; try omega)]
    rw [Below.heap_alloc _ _ _ (by simp; try omega)]
    rw [Below.heap_alloc _ _ _ (by simp; try omega)]
    rw [Below.heap_alloc _ _ _ (by simp; try omega)]
    rw [Below.heap_alloc _ _ _ (by simp; try omega)]
    have := World.alloc_heap_new (w.alloc (.cells #[.pointer (some ⟨b, 0, none⟩), .slice p l.length cap] 32)) (.cells #[.int .i64 10, .int .i64 x1, .int .i64 x2, .int .i64 A, .int .i64 B] 35)
    simpa using this
  have qR : W0.heap[(w.heap.size + 1 + 1)]? = some (.cells #[.bool false] 4 (0, 0)) := by
    rw [← hW0]
    rw [Below.heap_alloc _ _ _ (by simp; try omega)]
    rw [Below.heap_alloc _ _ _ (by simp; try omega)]
    rw [Below.heap_alloc _ _ _ (by simp; try omega)]
    rw [Below.heap_alloc _ _ _ (by simp; try omega)]
    rw [Below.heap_alloc _ _ _ (by simp; try omega)]
    have := World.alloc_heap_new ((w.alloc (.cells #[.pointer (some ⟨b, 0, none⟩), .slice p l.length cap] 32)).alloc (.cells #[.int .i64 10, .int .i64 x1, .int .i64 x2, .int .i64 A, .int .i64 B] 35)) (.cells #[.bool false] 4)
    simpa using this
  have qC : W0.heap[(w.heap.size + 1 + 1 + 1 + 1)]? = some (.cells #[.pointer (some ⟨b, 0, none⟩)] 23 (0, 0)) := by
    rw [← hW0]
    rw [Below.heap_alloc _ _ _ (by simp; try omega)]
    rw [Below.heap_alloc _ _ _ (by simp; try omega)]
    rw [Below.heap_alloc _ _ _ (by simp; try omega)]
    have := World.alloc_heap_new ((((w.alloc (.cells #[.pointer (some ⟨b, 0, none⟩), .slice p l.length cap] 32)).alloc (.cells #[.int .i64 10, .int .i64 x1, .int .i64 x2, .int .i64 A, .int .i64 B] 35)).alloc (.cells #[.bool false] 4)).alloc (.cells #[.pointer (some ⟨b, 0, none⟩)] 23)) (.cells #[.pointer (some ⟨b, 0, none⟩)] 23)
    simpa using this
  have qV : W0.heap[(w.heap.size + 1 + 1 + 1 + 1 + 1)]? = some (.cells #[.int .i64 0] 3 (0, 0)) := by
    rw [← hW0]
    rw [Below.heap_alloc _ _ _ (by simp; try omega)]
    rw [Below.heap_alloc _ _ _ (by simp; try omega)]
    have := World.alloc_heap_new (((((w.alloc (.cells #[.pointer (some ⟨b, 0, none⟩), .slice p l.length cap] 32)).alloc (.cells #[.int .i64 10, .int .i64 x1, .int .i64 x2, .int .i64 A, .int .i64 B] 35)).alloc (.cells #[.bool false] 4)).alloc (.cells #[.pointer (some ⟨b, 0, none⟩)] 23)).alloc (.cells #[.pointer (some ⟨b, 0, none⟩)] 23)) (.cells #[.int .i64 0] 3)
    simpa using this
  have qN : W0.heap[(w.heap.size + 1 + 1 + 1 + 1 + 1 + 1)]? = some (.cells #[.int .i64 0] 3 (0, 0)) := by
    rw [← hW0]
    rw [Below.heap_alloc _ _ _ (by simp; try omega)]
    have := World.alloc_heap_new ((((((w.alloc (.cells #[.pointer (some ⟨b, 0, none⟩), .slice p l.length cap] 32)).alloc (.cells #[.int .i64 10, .int .i64 x1, .int .i64 x2, .int .i64 A, .int .i64 B] 35)).alloc (.cells #[.bool false] 4)).alloc (.cells #[.pointer (some ⟨b, 0, none⟩)] 23)).alloc (.cells #[.pointer (some ⟨b, 0, none⟩)] 23)).alloc (.cells #[.int .i64 0] 3)) (.cells #[.int .i64 0] 3)
    simpa using this
  have qT : W0.heap[(w.heap.size + 1 + 1 + 1 + 1 + 1 + 1 + 1)]? = some (.cells #[.bool false] 4 (0, 0)) := by
    rw [← hW0]
    have := World.alloc_heap_new (((((((w.alloc (.cells #[.pointer (some ⟨b, 0, none⟩), .slice p l.length cap] 32)).alloc (.cells #[.int .i64 10, .int .i64 x1, .int .i64 x2, .int .i64 A, .int .i64 B] 35)).alloc (.cells #[.bool false] 4)).alloc (.cells #[.pointer (some ⟨b, 0, none⟩)] 23)).alloc (.cells #[.pointer (some ⟨b, 0, none⟩)] 23)).alloc (.cells #[.int .i64 0] 3)).alloc (.cells #[.int .i64 0] 3)) (.cells #[.bool false] 4)
    simpa using this
  have lr0 : Lr W0 p l := HLR.out.same (fun g _ hgl => B0.block g hgl)
  rw [hW0]
  clear hW0
  refine rng10_f b (w.heap.size + 1 + 1 + 1 + 1) (w.heap.size) (w.heap.size + 1) (w.heap.size + 1 + 1) (w.heap.size + 1 + 1 + 1 + 1 + 1) (w.heap.size + 1 + 1 + 1 + 1 + 1 + 1) (w.heap.size + 1 + 1 + 1 + 1 + 1 + 1 + 1) cap p l S HS.out x1 x2 A B rfl rfl _ _ _ _ _ _ _ _ _ _ _ _ _ _ _ _ _ _ _ _ _ _ _ _ _ _ _ _ _ _ _ _ _ _ _ _ _ _ _ _ _ _ _ _ _ _ _ _ _ _ _ _ _ _ _ _ _ _ _ _ _ _ _ _ _ _ _ _ _ _ _ _ _ _ _ _ _ _ _ _ _ _ _ _ _ _ _ _ _ _ _ [] W0 (HB.out.on B0) (HL.out.on B0 (by omega)) h0 qX qO qV qN qT qC lr0 (fun g hp hlen => ?hg0) (by omega) (by omega) (by omega) (by omega) (by omega) (by omega) (by omega) (by omega) ?hex ?hrest
  case hg0 =>
    have := HLR.out.lt hlen hp
    have := HG.out g hp
    omega
  case hex =>
    intro a' W h
    exact wpIn_exit h
  case hrest =>
    intro D n tb S' W hD hk c1 c2 hb' hcase hn hd
    have HG2 := hid (show ∀ g, p = some ⟨g, 0, none⟩ → 0 < l.length → g ≠ b ∧ g < w.heap.size from fun g hp hlen => ⟨HG.out g hp, HLR.out.lt hlen hp⟩)
    have g0 : Gq b w S p cap l 10 x1 x2 A B (w.heap.size + 1 + 1 + 1 + 1) W0 := ⟨Ko.of B0, qX, qO, qR, qC, HB.out.on B0, lr0⟩
    have g1 := g0.step hk hb' bw (by omega) (by omega) ⟨by omega, by omega, by omega⟩ HG2.out
    have r1V := (hk.obj (w.heap.size + 1 + 1 + 1 + 1 + 1) (by omega) (by omega) (by omega) (by omega)).trans qV
    have mX0 := row_cell g1.x 0
    have mX1 := row_cell g1.x 1
    have mO3 := row_cell g1.o 3
    have mO4 := row_cell g1.o 4
    have mV := row_cell r1V 0
    have mN := row_cell c1 0
    have mT := row_cell c2 0
    simp only [List.getElem?_toArray, List.getElem?_cons_zero, List.getElem?_cons_succ] at mX0 mX1 mO3 mO4 mV mN mT
    rcases hcase with ⟨rfl, rfl⟩ | ⟨rfl, hSS⟩
    · have CT := hid (turn_any b (trn S A) (.slice p l.length cap) A W hb' rfl)
      by_cases hnl : n = l.length
      · subst hnl
        gi_wp2_with (refine ⟨trivial, ?_⟩; gi_at_call 52; refine (callsIn_wide.2 CT.out).mono ?_; clear CT; rintro e W2 ⟨rfl, hk2, hm2⟩; rw [trn_trn] at hm2; have g2 := g1.step (Ko.k3 (N := w.heap.size + 100) (T := w.heap.size + 100) hk2) hm2 bw (by omega) (by omega) ⟨by omega, by omega, by omega⟩ HG2.out; have gV := (hk2.obj _ (Array.getElem?_eq_some_iff.1 r1V).1 (by omega)).trans r1V; have gN := (hk2.obj _ (Array.getElem?_eq_some_iff.1 c1).1 (by omega)).trans c1; have gD := (hk2.obj D (Array.getElem?_eq_some_iff.1 hd).1 (by omega)).trans hd; have lX1 := row_cell g2.x 1; have lO4 := row_cell g2.o 4; have lV := row_cell gV 0; have lN := row_cell gN 0; simp only [List.getElem?_toArray, List.getElem?_cons_zero, List.getElem?_cons_succ] at lX1 lO4 lV lN)
        have q2 := g2.ko.size
        have bD := (Array.getElem?_eq_some_iff.1 gD).1
        have bV1 := (Array.getElem?_eq_some_iff.1 gV).1
        rw [roundsIn_succ]
        gi_wp2
        obtain ⟨W3, hW3⟩ : ∃ W3, ((W2.alloc (.cells #[.int .i64 1] 3)).alloc (.cells #[.int .i64 0] 3)).alloc (.cells #[.bool false] 4) = W3 := ⟨_, rfl⟩
        have z3 : W3.heap.size = W2.heap.size + 3 := by rw [← hW3]; simp
        have B3 : Below W2.heap.size W2 W3 := by rw [← hW3]; exact (((Below.refl _ W2).alloc (by simp) _).alloc (by simp) _).alloc (by simp; try omega) _
        have sV : W3.heap[W2.heap.size]? = some (.cells #[.int .i64 1] 3 (0, 0)) := by
          rw [← hW3, Below.heap_alloc _ _ _ (by simp; try omega), Below.heap_alloc _ _ _ (by simp; try omega)]; exact World.alloc_heap_new _ _
        have sN : W3.heap[W2.heap.size + 1]? = some (.cells #[.int .i64 0] 3 (0, 0)) := by
          rw [← hW3, Below.heap_alloc _ _ _ (by simp; try omega)]
          have := World.alloc_heap_new (W2.alloc (.cells #[.int .i64 1] 3)) (.cells #[.int .i64 0] 3)
          simpa using this
        have sT : W3.heap[W2.heap.size + 1 + 1]? = some (.cells #[.bool false] 4 (0, 0)) := by
          rw [← hW3]
          have := World.alloc_heap_new ((W2.alloc (.cells #[.int .i64 1] 3)).alloc (.cells #[.int .i64 0] 3)) (.cells #[.bool false] 4)
          simpa using this
        have g3 := g2.step (k3_below (b := b) (N := W2.heap.size + 1) (T := W2.heap.size + 1 + 1) B3) (g2.bm.on B3) bw (by omega) (by omega) ⟨by omega, by omega, by omega⟩ HG2.out
        have gD3 := (B3.block D bD).trans gD
        rw [hW3]
        clear hW3
        refine rng10_s b (w.heap.size + 1 + 1 + 1 + 1) w.heap.size (w.heap.size + 1) (w.heap.size + 1 + 1) W2.heap.size (W2.heap.size + 1) (W2.heap.size + 1 + 1) cap p l S HS.out x1 x2 A _ rfl rfl _ _ _ _ _ _ _ _ _ _ _ _ _ _ _ _ _ _ _ _ _ _ _ _ _ _ _ _ _ _ _ _ _ _ _ _ _ _ _ _ _ _ _ _ _ _ _ _ _ _ _ _ _ _ _ _ _ _ _ _ _ _ _ _ _ _ _ _ _ _ _ _ _ _ _ _ _ _ _ _ _ _ _ _ _ _ _ _ _ _ _ [_] W3 g3.bm (HL.out.same (g3.ko.obj 0 (by omega) (by omega))) h0 g3.x g3.o sV sN sT g3.c g3.lr (fun g hp hlen => ?hg1) (by omega) (by omega) (by omega) (by omega) (by omega) (by omega) (by omega) (by omega) ?hex1 ?hrest1
        case hg1 =>
          have := HG2.out g hp hlen
          omega
        case hex1 =>
          intro a' W h
          exact wpIn_exit h
        case hrest1 =>
          intro D2 n2 tb2 S2 W4 hD2 hk2 c1 c2 hb2 hcase2 hn2 hd2
          obtain ⟨rfl, hSS2⟩ := hcase2
          obtain rfl := hSS2.symm
          subst hn2
          have g4 := g3.step hk2 hb2 bw (by omega) (by omega) ⟨by omega, by omega, by omega⟩ HG2.out
          have gD4 := (hk2.obj D (by omega) (fun e => by subst e; have := g3.bm; obtain ⟨row, hrow, _⟩ := this; rw [gD3] at hrow; cases hrow) (by omega) (by omega)).trans gD3
          have gV4 := (hk2.obj W2.heap.size (by omega) (by omega) (by omega) (by omega)).trans sV
          have eX1 := row_cell g4.x 1
          have eO4 := row_cell g4.o 4
          have eV := row_cell gV4 0
          have eN := row_cell c1 0
          have eT := row_cell c2 0
          simp only [List.getElem?_toArray, List.getElem?_cons_zero, List.getElem?_cons_succ] at eX1 eO4 eV eN eT
          obtain ⟨Wf, hWf⟩ : ∃ Wf, (W4.alloc (.cells #[.int .i64 2] 3)).setCell ⟨w.heap.size + 1 + 1, 0, none⟩ (.bool true) = Wf := ⟨_, rfl⟩
          obtain ⟨t1, t2, t3, t4, t5, t6, t7⟩ := goes_end (w.heap.size + 1 + 1) g4.ko g4.bm bw g4.r (by omega) gD4 hd2 (by omega) (by omega) (by omega) Wf hWf
          have FIN := hid (And.intro t1 (And.intro t2 (And.intro t3 (And.intro t4 t5))))
          clear t1 t2 t3 t4 t5 g4 g3 g2 gD gD3 gD4 gV gV4 hd2 hd hk2 hk c1 c2 hb2 sV sN sT B3
          gi_wp2
          rw [roundsIn_succ]
          gi_wp2
          refine ⟨by simp, .inl ⟨_, _, rfl, run_takeDeferred FIN.out.1, ?_⟩⟩
          refine ⟨by simp, .inl ⟨_, _, rfl, run_takeDeferred FIN.out.2.1, ?_⟩⟩
          have h3 := FIN.out.2.2.1
          refine ⟨.bool true, ?_, rfl, FIN.out.2.2.2.1, FIN.out.2.2.2.2⟩
          simp [results, Tryd.f40, go_sem, h3]
      · have hnB : (n : Int) = B := by omega
        have hnl2 : ¬ ((n : Int) = (l.length : Int)) := by omega
        subst hnB
        gi_wp2_with (refine ⟨trivial, ?_⟩; gi_at_call 52; refine (callsIn_wide.2 CT.out).mono ?_; clear CT; rintro e W2 ⟨rfl, hk2, hm2⟩; rw [trn_trn] at hm2; have g2 := g1.step (Ko.k3 (N := w.heap.size + 100) (T := w.heap.size + 100) hk2) hm2 bw (by omega) (by omega) ⟨by omega, by omega, by omega⟩ HG2.out; have gV := (hk2.obj _ (Array.getElem?_eq_some_iff.1 r1V).1 (by omega)).trans r1V; have gN := (hk2.obj _ (Array.getElem?_eq_some_iff.1 c1).1 (by omega)).trans c1; have gD := (hk2.obj D (Array.getElem?_eq_some_iff.1 hd).1 (by omega)).trans hd; have lX1 := row_cell g2.x 1; have lO4 := row_cell g2.o 4; have lV := row_cell gV 0; have lN := row_cell gN 0; simp only [List.getElem?_toArray, List.getElem?_cons_zero, List.getElem?_cons_succ] at lX1 lO4 lV lN)
        have q2 := g2.ko.size
        have bD := (Array.getElem?_eq_some_iff.1 gD).1
        have bV1 := (Array.getElem?_eq_some_iff.1 gV).1
        rw [roundsIn_succ]
        gi_wp2
        obtain ⟨W3, hW3⟩ : ∃ W3, ((W2.alloc (.cells #[.int .i64 1] 3)).alloc (.cells #[.int .i64 0] 3)).alloc (.cells #[.bool false] 4) = W3 := ⟨_, rfl⟩
        have z3 : W3.heap.size = W2.heap.size + 3 := by rw [← hW3]; simp
        have B3 : Below W2.heap.size W2 W3 := by rw [← hW3]; exact (((Below.refl _ W2).alloc (by simp) _).alloc (by simp) _).alloc (by simp; try omega) _
        have sV : W3.heap[W2.heap.size]? = some (.cells #[.int .i64 1] 3 (0, 0)) := by
          rw [← hW3, Below.heap_alloc _ _ _ (by simp; try omega), Below.heap_alloc _ _ _ (by simp; try omega)]; exact World.alloc_heap_new _ _
        have sN : W3.heap[W2.heap.size + 1]? = some (.cells #[.int .i64 0] 3 (0, 0)) := by
          rw [← hW3, Below.heap_alloc _ _ _ (by simp; try omega)]
          have := World.alloc_heap_new (W2.alloc (.cells #[.int .i64 1] 3)) (.cells #[.int .i64 0] 3)
          simpa using this
        have sT : W3.heap[W2.heap.size + 1 + 1]? = some (.cells #[.bool false] 4 (0, 0)) := by
          rw [← hW3]
          have := World.alloc_heap_new ((W2.alloc (.cells #[.int .i64 1] 3)).alloc (.cells #[.int .i64 0] 3)) (.cells #[.bool false] 4)
          simpa using this
        have g3 := g2.step (k3_below (b := b) (N := W2.heap.size + 1) (T := W2.heap.size + 1 + 1) B3) (g2.bm.on B3) bw (by omega) (by omega) ⟨by omega, by omega, by omega⟩ HG2.out
        have gD3 := (B3.block D bD).trans gD
        rw [hW3]
        clear hW3
        refine rng10_s b (w.heap.size + 1 + 1 + 1 + 1) w.heap.size (w.heap.size + 1) (w.heap.size + 1 + 1) W2.heap.size (W2.heap.size + 1) (W2.heap.size + 1 + 1) cap p l S HS.out x1 x2 A _ rfl rfl _ _ _ _ _ _ _ _ _ _ _ _ _ _ _ _ _ _ _ _ _ _ _ _ _ _ _ _ _ _ _ _ _ _ _ _ _ _ _ _ _ _ _ _ _ _ _ _ _ _ _ _ _ _ _ _ _ _ _ _ _ _ _ _ _ _ _ _ _ _ _ _ _ _ _ _ _ _ _ _ _ _ _ _ _ _ _ _ _ _ _ [_] W3 g3.bm (HL.out.same (g3.ko.obj 0 (by omega) (by omega))) h0 g3.x g3.o sV sN sT g3.c g3.lr (fun g hp hlen => ?hg1) (by omega) (by omega) (by omega) (by omega) (by omega) (by omega) (by omega) (by omega) ?hex1 ?hrest1
        case hg1 =>
          have := HG2.out g hp hlen
          omega
        case hex1 =>
          intro a' W h
          exact wpIn_exit h
        case hrest1 =>
          intro D2 n2 tb2 S2 W4 hD2 hk2 c1 c2 hb2 hcase2 hn2 hd2
          obtain ⟨rfl, hSS2⟩ := hcase2
          obtain rfl := hSS2.symm
          subst hn2
          have g4 := g3.step hk2 hb2 bw (by omega) (by omega) ⟨by omega, by omega, by omega⟩ HG2.out
          have gD4 := (hk2.obj D (by omega) (fun e => by subst e; have := g3.bm; obtain ⟨row, hrow, _⟩ := this; rw [gD3] at hrow; cases hrow) (by omega) (by omega)).trans gD3
          have gV4 := (hk2.obj W2.heap.size (by omega) (by omega) (by omega) (by omega)).trans sV
          have eX1 := row_cell g4.x 1
          have eO4 := row_cell g4.o 4
          have eV := row_cell gV4 0
          have eN := row_cell c1 0
          have eT := row_cell c2 0
          simp only [List.getElem?_toArray, List.getElem?_cons_zero, List.getElem?_cons_succ] at eX1 eO4 eV eN eT
          obtain ⟨Wf, hWf⟩ : ∃ Wf, (W4.alloc (.cells #[.int .i64 2] 3)).setCell ⟨w.heap.size + 1 + 1, 0, none⟩ (.bool true) = Wf := ⟨_, rfl⟩
          obtain ⟨t1, t2, t3, t4, t5, t6, t7⟩ := goes_end (w.heap.size + 1 + 1) g4.ko g4.bm bw g4.r (by omega) gD4 hd2 (by omega) (by omega) (by omega) Wf hWf
          have FIN := hid (And.intro t1 (And.intro t2 (And.intro t3 (And.intro t4 t5))))
          clear t1 t2 t3 t4 t5 g4 g3 g2 gD gD3 gD4 gV gV4 hd2 hd hk2 hk c1 c2 hb2 sV sN sT B3
          gi_wp2
          rw [roundsIn_succ]
          gi_wp2
          refine ⟨by simp, .inl ⟨_, _, rfl, run_takeDeferred FIN.out.1, ?_⟩⟩
          refine ⟨by simp, .inl ⟨_, _, rfl, run_takeDeferred FIN.out.2.1, ?_⟩⟩
          have h3 := FIN.out.2.2.1
          refine ⟨.bool true, ?_, rfl, FIN.out.2.2.2.1, FIN.out.2.2.2.2⟩
          simp [results, Tryd.f40, go_sem, h3]
    · obtain rfl := hSS.symm
      obtain ⟨W2, hW2⟩ : ∃ W2, W2 = W := ⟨_, rfl⟩
      subst hW2
      have g2 := g1
      have gV := r1V
      have gD := hd
      by_cases hnl : n = l.length
      · subst hnl
        gi_wp2
        have q2 := g2.ko.size
        have bD := (Array.getElem?_eq_some_iff.1 gD).1
        have bV1 := (Array.getElem?_eq_some_iff.1 gV).1
        rw [roundsIn_succ]
        gi_wp2
        obtain ⟨W3, hW3⟩ : ∃ W3, ((W2.alloc (.cells #[.int .i64 1] 3)).alloc (.cells #[.int .i64 0] 3)).alloc (.cells #[.bool false] 4) = W3 := ⟨_, rfl⟩
        have z3 : W3.heap.size = W2.heap.size + 3 := by rw [← hW3]; simp
        have B3 : Below W2.heap.size W2 W3 := by rw [← hW3]; exact (((Below.refl _ W2).alloc (by simp) _).alloc (by simp) _).alloc (by simp; try omega) _
        have sV : W3.heap[W2.heap.size]? = some (.cells #[.int .i64 1] 3 (0, 0)) := by
          rw [← hW3, Below.heap_alloc _ _ _ (by simp; try omega), Below.heap_alloc _ _ _ (by simp; try omega)]; exact World.alloc_heap_new _ _
        have sN : W3.heap[W2.heap.size + 1]? = some (.cells #[.int .i64 0] 3 (0, 0)) := by
          rw [← hW3, Below.heap_alloc _ _ _ (by simp; try omega)]
          have := World.alloc_heap_new (W2.alloc (.cells #[.int .i64 1] 3)) (.cells #[.int .i64 0] 3)
          simpa using this
        have sT : W3.heap[W2.heap.size + 1 + 1]? = some (.cells #[.bool false] 4 (0, 0)) := by
          rw [← hW3]
          have := World.alloc_heap_new ((W2.alloc (.cells #[.int .i64 1] 3)).alloc (.cells #[.int .i64 0] 3)) (.cells #[.bool false] 4)
          simpa using this
        have g3 := g2.step (k3_below (b := b) (N := W2.heap.size + 1) (T := W2.heap.size + 1 + 1) B3) (g2.bm.on B3) bw (by omega) (by omega) ⟨by omega, by omega, by omega⟩ HG2.out
        have gD3 := (B3.block D bD).trans gD
        rw [hW3]
        clear hW3
        refine rng10_s b (w.heap.size + 1 + 1 + 1 + 1) w.heap.size (w.heap.size + 1) (w.heap.size + 1 + 1) W2.heap.size (W2.heap.size + 1) (W2.heap.size + 1 + 1) cap p l S HS.out x1 x2 A _ rfl rfl _ _ _ _ _ _ _ _ _ _ _ _ _ _ _ _ _ _ _ _ _ _ _ _ _ _ _ _ _ _ _ _ _ _ _ _ _ _ _ _ _ _ _ _ _ _ _ _ _ _ _ _ _ _ _ _ _ _ _ _ _ _ _ _ _ _ _ _ _ _ _ _ _ _ _ _ _ _ _ _ _ _ _ _ _ _ _ _ _ _ _ [_] W3 g3.bm (HL.out.same (g3.ko.obj 0 (by omega) (by omega))) h0 g3.x g3.o sV sN sT g3.c g3.lr (fun g hp hlen => ?hg1) (by omega) (by omega) (by omega) (by omega) (by omega) (by omega) (by omega) (by omega) ?hex1 ?hrest1
        case hg1 =>
          have := HG2.out g hp hlen
          omega
        case hex1 =>
          intro a' W h
          exact wpIn_exit h
        case hrest1 =>
          intro D2 n2 tb2 S2 W4 hD2 hk2 c1 c2 hb2 hcase2 hn2 hd2
          obtain ⟨rfl, hSS2⟩ := hcase2
          obtain rfl := hSS2.symm
          subst hn2
          have g4 := g3.step hk2 hb2 bw (by omega) (by omega) ⟨by omega, by omega, by omega⟩ HG2.out
          have gD4 := (hk2.obj D (by omega) (fun e => by subst e; have := g3.bm; obtain ⟨row, hrow, _⟩ := this; rw [gD3] at hrow; cases hrow) (by omega) (by omega)).trans gD3
          have gV4 := (hk2.obj W2.heap.size (by omega) (by omega) (by omega) (by omega)).trans sV
          have eX1 := row_cell g4.x 1
          have eO4 := row_cell g4.o 4
          have eV := row_cell gV4 0
          have eN := row_cell c1 0
          have eT := row_cell c2 0
          simp only [List.getElem?_toArray, List.getElem?_cons_zero, List.getElem?_cons_succ] at eX1 eO4 eV eN eT
          obtain ⟨Wf, hWf⟩ : ∃ Wf, (W4.alloc (.cells #[.int .i64 2] 3)).setCell ⟨w.heap.size + 1 + 1, 0, none⟩ (.bool true) = Wf := ⟨_, rfl⟩
          obtain ⟨t1, t2, t3, t4, t5, t6, t7⟩ := goes_end (w.heap.size + 1 + 1) g4.ko g4.bm bw g4.r (by omega) gD4 hd2 (by omega) (by omega) (by omega) Wf hWf
          have FIN := hid (And.intro t1 (And.intro t2 (And.intro t3 (And.intro t4 t5))))
          clear t1 t2 t3 t4 t5 g4 g3 g2 gD gD3 gD4 gV gV4 hd2 hd hk2 hk c1 c2 hb2 sV sN sT B3
          gi_wp2
          rw [roundsIn_succ]
          gi_wp2
          refine ⟨by simp, .inl ⟨_, _, rfl, run_takeDeferred FIN.out.1, ?_⟩⟩
          refine ⟨by simp, .inl ⟨_, _, rfl, run_takeDeferred FIN.out.2.1, ?_⟩⟩
          have h3 := FIN.out.2.2.1
          refine ⟨.bool true, ?_, rfl, FIN.out.2.2.2.1, FIN.out.2.2.2.2⟩
          simp [results, Tryd.f40, go_sem, h3]
      · have hnB : (n : Int) = B := by omega
        have hnl2 : ¬ ((n : Int) = (l.length : Int)) := by omega
        subst hnB
        gi_wp2
        have q2 := g2.ko.size
        have bD := (Array.getElem?_eq_some_iff.1 gD).1
        have bV1 := (Array.getElem?_eq_some_iff.1 gV).1
        rw [roundsIn_succ]
        gi_wp2
        obtain ⟨W3, hW3⟩ : ∃ W3, ((W2.alloc (.cells #[.int .i64 1] 3)).alloc (.cells #[.int .i64 0] 3)).alloc (.cells #[.bool false] 4) = W3 := ⟨_, rfl⟩
        have z3 : W3.heap.size = W2.heap.size + 3 := by rw [← hW3]; simp
        have B3 : Below W2.heap.size W2 W3 := by rw [← hW3]; exact (((Below.refl _ W2).alloc (by simp) _).alloc (by simp) _).alloc (by simp; try omega) _
        have sV : W3.heap[W2.heap.size]? = some (.cells #[.int .i64 1] 3 (0, 0)) := by
          rw [← hW3, Below.heap_alloc _ _ _ (by simp; try omega), Below.heap_alloc _ _ _ (by simp; try omega)]; exact World.alloc_heap_new _ _
        have sN : W3.heap[W2.heap.size + 1]? = some (.cells #[.int .i64 0] 3 (0, 0)) := by
          rw [← hW3, Below.heap_alloc _ _ _ (by simp; try omega)]
          have := World.alloc_heap_new (W2.alloc (.cells #[.int .i64 1] 3)) (.cells #[.int .i64 0] 3)
          simpa using this
        have sT : W3.heap[W2.heap.size + 1 + 1]? = some (.cells #[.bool false] 4 (0, 0)) := by
          rw [← hW3]
          have := World.alloc_heap_new ((W2.alloc (.cells #[.int .i64 1] 3)).alloc (.cells #[.int .i64 0] 3)) (.cells #[.bool false] 4)
          simpa using this
        have g3 := g2.step (k3_below (b := b) (N := W2.heap.size + 1) (T := W2.heap.size + 1 + 1) B3) (g2.bm.on B3) bw (by omega) (by omega) ⟨by omega, by omega, by omega⟩ HG2.out
        have gD3 := (B3.block D bD).trans gD
        rw [hW3]
        clear hW3
        refine rng10_s b (w.heap.size + 1 + 1 + 1 + 1) w.heap.size (w.heap.size + 1) (w.heap.size + 1 + 1) W2.heap.size (W2.heap.size + 1) (W2.heap.size + 1 + 1) cap p l S HS.out x1 x2 A _ rfl rfl _ _ _ _ _ _ _ _ _ _ _ _ _ _ _ _ _ _ _ _ _ _ _ _ _ _ _ _ _ _ _ _ _ _ _ _ _ _ _ _ _ _ _ _ _ _ _ _ _ _ _ _ _ _ _ _ _ _ _ _ _ _ _ _ _ _ _ _ _ _ _ _ _ _ _ _ _ _ _ _ _ _ _ _ _ _ _ _ _ _ _ [_] W3 g3.bm (HL.out.same (g3.ko.obj 0 (by omega) (by omega))) h0 g3.x g3.o sV sN sT g3.c g3.lr (fun g hp hlen => ?hg1) (by omega) (by omega) (by omega) (by omega) (by omega) (by omega) (by omega) (by omega) ?hex1 ?hrest1
        case hg1 =>
          have := HG2.out g hp hlen
          omega
        case hex1 =>
          intro a' W h
          exact wpIn_exit h
        case hrest1 =>
          intro D2 n2 tb2 S2 W4 hD2 hk2 c1 c2 hb2 hcase2 hn2 hd2
          obtain ⟨rfl, hSS2⟩ := hcase2
          obtain rfl := hSS2.symm
          subst hn2
          have g4 := g3.step hk2 hb2 bw (by omega) (by omega) ⟨by omega, by omega, by omega⟩ HG2.out
          have gD4 := (hk2.obj D (by omega) (fun e => by subst e; have := g3.bm; obtain ⟨row, hrow, _⟩ := this; rw [gD3] at hrow; cases hrow) (by omega) (by omega)).trans gD3
          have gV4 := (hk2.obj W2.heap.size (by omega) (by omega) (by omega) (by omega)).trans sV
          have eX1 := row_cell g4.x 1
          have eO4 := row_cell g4.o 4
          have eV := row_cell gV4 0
          have eN := row_cell c1 0
          have eT := row_cell c2 0
          simp only [List.getElem?_toArray, List.getElem?_cons_zero, List.getElem?_cons_succ] at eX1 eO4 eV eN eT
          obtain ⟨Wf, hWf⟩ : ∃ Wf, (W4.alloc (.cells #[.int .i64 2] 3)).setCell ⟨w.heap.size + 1 + 1, 0, none⟩ (.bool true) = Wf := ⟨_, rfl⟩
          obtain ⟨t1, t2, t3, t4, t5, t6, t7⟩ := goes_end (w.heap.size + 1 + 1) g4.ko g4.bm bw g4.r (by omega) gD4 hd2 (by omega) (by omega) (by omega) Wf hWf
          have FIN := hid (And.intro t1 (And.intro t2 (And.intro t3 (And.intro t4 t5))))
          clear t1 t2 t3 t4 t5 g4 g3 g2 gD gD3 gD4 gV gV4 hd2 hd hk2 hk c1 c2 hb2 sV sN sT B3
          gi_wp2
          rw [roundsIn_succ]
          gi_wp2
          refine ⟨by simp, .inl ⟨_, _, rfl, run_takeDeferred FIN.out.1, ?_⟩⟩
          refine ⟨by simp, .inl ⟨_, _, rfl, run_takeDeferred FIN.out.2.1, ?_⟩⟩
          have h3 := FIN.out.2.2.1
          refine ⟨.bool true, ?_, rfl, FIN.out.2.2.2.1, FIN.out.2.2.2.2⟩
          simp [results, Tryd.f40, go_sem, h3]
end Go.Proofs.YtcbfgodknonefaaDoor
