/-
  A reader, the bytes that came and what was told, side by side.
-/
import Derived.Test.YtehaomjfhiiifaaDoorWaU
import Derived.Test.YtehaomjfhiiifaaDoorRdC
namespace Go.Proofs.YtehaomjfhiiifaaDoor
open Go.RowKit Go.Deep Crc
set_option linter.unusedVariables false
set_option linter.unusedSimpArgs false
theorem RdG.same {base : Nat} {W W' : World} {R : Nat} {ys : List Nat} {hv : Value} (h : RdG base W R ys hv) (hR : W'.heap[R]? = W.heap[R]?) (hg : ∀ g, hv.ownBlock = some g → W'.heap[g]? = W.heap[g]?) : RdG base W' R ys hv := by
  obtain ⟨h0, h1, h2, h3⟩ := h
  refine ⟨h0, h1, hR.trans h2, ?_⟩
  rcases h3 with h3 | ⟨g, o, cap, cur, rfl, r1, r2, r3, r4, r5, r6⟩
  · exact .inl h3
  · refine .inr ⟨g, o, cap, cur, rfl, r1, (hg g rfl).trans r2, r3, r4, r5, fun i hi => ?_⟩
    have := r6 i hi
    rw [cell_same' (hg g rfl)]
    exact this
theorem RdG.ty {base : Nat} {W : World} {R : Nat} {ys : List Nat} {hv : Value} (h : RdG base W R ys hv) {g : Nat} (hg : hv.ownBlock = some g) : ∃ cur, W.heap[g]? = some (.cells cur 5 (0, 0)) := by
  rcases h.2.2.2 with ⟨_, rfl⟩ | ⟨g', o, cap, cur, rfl, r1, r2, _⟩
  · cases hg
  · cases hg; exact ⟨cur, r2⟩
/-- a reader, the bytes that came, what was told: apart. -/
structure Pz (w : World) (R : Nat) (ys : List Nat) (vw : Value) (cat : List Nat) (vg : Value) (vs : List (Value × Int)) (W : World) : Prop where
  rd : ∃ hv, RdG w.heap.size W R ys hv ∧ ∀ g, hv.ownBlock = some g → ¬ vw.ownBlock = some g
  wh : W.ownsRow w.heap.size 5 1 vw cat.length (bv cat)
  gt : OwW w.heap.size W vg vs
  bel : Below w.heap.size w W
  oc : Oct cat
theorem lt_of {W : World} {g : Nat} {o : Obj} (h : W.heap[g]? = some o) : g < W.heap.size := (Array.getElem?_eq_some_iff.1 h).1
theorem Pz.on {w : World} {R : Nat} {ys : List Nat} {vw : Value} {cat : List Nat} {vg : Value} {vs : List (Value × Int)} {W W' : World} (h : Pz w R ys vw cat vg vs W) (b : Below W.heap.size W W') : Pz w R ys vw cat vg vs W' := by
  obtain ⟨hv, h1, h2⟩ := h.rd
  refine ⟨⟨hv, h1.to b, h2⟩, own_same h.wh (fun g hg => ?_), own_same h.gt (fun g hg => ?_), h.bel.trans (b.mono h.bel.size), h.oc⟩
  · obtain ⟨cur, e⟩ := own_ty h.wh hg; exact b.block _ (lt_of e)
  · obtain ⟨cur, e⟩ := own_ty h.gt hg; exact b.block _ (lt_of e)
/-- the reader has changed, and what it holds: no other block. -/
theorem Pz.moved {w : World} {R : Nat} {ys zs : List Nat} {vw : Value} {cat : List Nat} {vg : Value} {vs : List (Value × Int)} {W W' : World} {hv hv' : Value} (h : Pz w R ys vw cat vg vs W) (h1 : RdG w.heap.size W R ys hv) (h2 : ∀ g, hv.ownBlock = some g → ¬ vw.ownBlock = some g)
    (k1 : RdG w.heap.size W' R zs hv') (k2 : hv'.ownBlock = hv.ownBlock ∨ ∀ g, hv'.ownBlock = some g → W.heap.size ≤ g) (kb : Below w.heap.size W W') (ks : ∀ b, b < W.heap.size → ¬ b = R → ¬ hv.ownBlock = some b → W'.heap[b]? = W.heap[b]?) : Pz w R zs vw cat vg vs W' := by
  refine ⟨⟨hv', k1, fun g hg hw => ?_⟩, own_same h.wh (fun g hg => ?_), own_same h.gt (fun g hg => ?_), h.bel.trans kb, h.oc⟩
  · obtain ⟨cur, e⟩ := own_ty h.wh hw
    rcases k2 with k2 | k2
    · exact h2 g (k2 ▸ hg) hw
    · have := k2 g hg; have := lt_of e; omega
  · obtain ⟨cur, e⟩ := own_ty h.wh hg
    exact ks g (lt_of e) (by rintro rfl; rw [h1.2.2.1] at e; simp at e) (fun e2 => h2 g e2 hg)
  · obtain ⟨cur, e⟩ := own_ty h.gt hg
    refine ks g (lt_of e) (by rintro rfl; rw [h1.2.2.1] at e; simp at e) (fun e2 => ?_)
    obtain ⟨cur2, e3⟩ := h1.ty e2
    rw [e] at e3; simp at e3
/-- bytes were laid behind those that came. -/
theorem Pz.app {w : World} {R : Nat} {ys xs : List Nat} {vw vw' : Value} {cat : List Nat} {vg : Value} {vs : List (Value × Int)} {W W' : World} (h : Pz w R ys vw cat vg vs W) (o : W'.ownsRow w.heap.size 5 1 vw' (cat ++ xs).length (bv (cat ++ xs))) (hx : Oct xs)
    (g : W.grownBy W' vw.ownBlock) (k : vw'.ownBlock = vw.ownBlock ∨ vw'.ownBlock = some W.heap.size) : Pz w R ys vw' (cat ++ xs) vg vs W' := by
  obtain ⟨hv, h1, h2⟩ := h.rd
  refine ⟨⟨hv, h1.same ?_ ?_, ?_⟩, o, own_same h.gt ?_, h.bel.grown g h.bel.size (fun j hj => (h.wh.lt j hj).1), oct_app h.oc hx⟩
  · refine g.block _ (lt_of h1.2.2.1) (fun e => ?_)
    obtain ⟨cur, e2⟩ := own_ty h.wh e.symm
    rw [h1.2.2.1] at e2; simp at e2
  · intro j hj
    obtain ⟨cur, e⟩ := h1.ty hj
    exact g.block _ (lt_of e) (fun e2 => h2 j hj e2.symm)
  · intro j hj hw
    obtain ⟨cur, e⟩ := h1.ty hj
    rcases k with k | k
    · exact h2 j hj (k ▸ hw)
    · rw [k] at hw; cases hw; have := lt_of e; omega
  · intro j hj
    obtain ⟨cur, e⟩ := own_ty h.gt hj
    refine g.block _ (lt_of e) (fun e2 => ?_)
    obtain ⟨cur2, e3⟩ := own_ty h.wh e2.symm
    rw [e] at e3; simp at e3
/-- what was told was laid behind. -/
theorem Pz.got {w : World} {R : Nat} {ys : List Nat} {vw vg' : Value} {cat : List Nat} {vg : Value} {vs vs' : List (Value × Int)} {W W' : World} (h : Pz w R ys vw cat vg vs W) (o : OwW w.heap.size W' vg' vs')
    (g : W.grownBy W' vg.ownBlock) : Pz w R ys vw cat vg' vs' W' := by
  obtain ⟨hv, h1, h2⟩ := h.rd
  refine ⟨⟨hv, h1.same ?_ ?_, h2⟩, own_same h.wh ?_, o, h.bel.grown g h.bel.size (fun j hj => (World.ownsRow.lt h.gt j hj).1), h.oc⟩
  · refine g.block _ (lt_of h1.2.2.1) (fun e => ?_)
    obtain ⟨cur, e2⟩ := own_ty h.gt e.symm
    rw [h1.2.2.1] at e2; simp at e2
  · intro j hj
    obtain ⟨cur, e⟩ := h1.ty hj
    refine g.block _ (lt_of e) (fun e2 => ?_)
    obtain ⟨cur2, e3⟩ := own_ty h.gt e2.symm
    rw [e] at e3; simp at e3
  · intro j hj
    obtain ⟨cur, e⟩ := own_ty h.wh hj
    refine g.block _ (lt_of e) (fun e2 => ?_)
    obtain ⟨cur2, e3⟩ := own_ty h.gt e2.symm
    rw [e] at e3; simp at e3
/-- Feed. -/
theorem pfeed {w : World} {R : Nat} {ys xs : List Nat} {vw : Value} {cat : List Nat} {vg : Value} {vs : List (Value × Int)} {W : World} (h : Pz w R ys vw cat vg vs W) (ad : Addr) (c : Nat) (hx : Oct xs) (hc : ∀ j u, (bv xs)[j]? = some u → W.cell? (ad.add j) = some u) (hn : ys.length + xs.length ≤ 140737488355328) :
    Calls Tryd.prog 23 #[.pointer (some ⟨R, 0, none⟩), .slice (some ad) xs.length c] W fun e W' => e = .returned (.tuple #[]) ∧ Pz w R (ys ++ xs) vw cat vg vs W' := by
  obtain ⟨hv, h1, h2⟩ := h.rd
  refine (rfeedG w.heap.size W R ys xs ad c hv h1 hx hc hn).mono ?_
  rintro e W' ⟨rfl, ⟨hv', k1, k2⟩, kb, _, ks⟩
  exact ⟨rfl, h.moved h1 h2 k1 k2 kb ks⟩
/-- Next of a frame that is whole. -/
theorem pnext {w : World} {R : Nat} {ys : List Nat} {vw : Value} {cat : List Nat} {vg : Value} {vs : List (Value × Int)} {W : World} (h : Pz w R ys vw cat vg vs W) (hl : 64 ≤ ys.length) (hm : ys.length < 9223372036854775808) (hL : Laid W) :
    Calls Tryd.prog 24 #[.pointer (some ⟨R, 0, none⟩)] W fun e W' => ∃ k a0 a1 a2 a3 a4 a5 a6 : Nat, ∃ E, e = .returned (.tuple #[.agg #[.int .u8 (k : Nat), .int .u64 (a0 : Nat), .int .u64 (a1 : Nat), .int .u64 (a2 : Nat), .int .u64 (a3 : Nat), .int .u64 (a4 : Nat), .int .u64 (a5 : Nat), .int .u64 (a6 : Nat)], .int .i64 E, .bool true]) ∧ Hid (UnpR (ys.take 64) (.agg #[.int .u8 (k : Nat), .int .u64 (a0 : Nat), .int .u64 (a1 : Nat), .int .u64 (a2 : Nat), .int .u64 (a3 : Nat), .int .u64 (a4 : Nat), .int .u64 (a5 : Nat), .int .u64 (a6 : Nat)]) E) ∧ Hid (Pz w R (ys.drop 64) vw cat vg vs W') := by
  obtain ⟨hv, h1, h2⟩ := h.rd
  refine (rnextG w.heap.size W R ys hv h1 hl hm hL).mono ?_
  rintro e W' ⟨⟨V, E, hU, rfl⟩, ⟨hv', k1, k2⟩, kb, _, ks⟩
  obtain ⟨k, a0, a1, a2, a3, a4, a5, a6, rfl⟩ := hU.form
  exact ⟨k, a0, a1, a2, a3, a4, a5, a6, E, rfl, hid hU, hid (h.moved h1 h2 k1 (by rcases k2 with k2 | k2; exact .inl k2; exact .inr (fun g hg => by rw [k2] at hg; cases hg)) kb (fun b hb hR _ => ks b hb hR))⟩
/-- Next where none is whole. -/
theorem pnone {w : World} {R : Nat} {ys : List Nat} {vw : Value} {cat : List Nat} {vg : Value} {vs : List (Value × Int)} {W : World} (h : Pz w R ys vw cat vg vs W) (hl : ys.length < 64) :
    Calls Tryd.prog 24 #[.pointer (some ⟨R, 0, none⟩)] W fun e W' => e = .returned (.tuple #[.agg fz, .int .i64 0, .bool false]) ∧ Hid (Pz w R ys vw cat vg vs W') := by
  obtain ⟨hv, h1, h2⟩ := h.rd
  refine (rnext_short w.heap.size W R ys h1.rd hl).mono ?_
  rintro e W' ⟨rfl, _, kb⟩
  exact ⟨rfl, hid (h.on kb)⟩
/-- Close. -/
theorem pclose {w : World} {R : Nat} {ys : List Nat} {vw : Value} {cat : List Nat} {vg : Value} {vs : List (Value × Int)} {W : World} (h : Pz w R ys vw cat vg vs W) (hm : ys.length < 9223372036854775808) :
    Calls Tryd.prog 25 #[.pointer (some ⟨R, 0, none⟩)] W fun e W' => ((ys = [] ∧ e = .returned (.int .i64 0)) ∨ (0 < ys.length ∧ e = .returned (.int .i64 20))) ∧ Hid (Pz w R [] vw cat vg vs W') := by
  obtain ⟨hv, h1, h2⟩ := h.rd
  refine (rcloseG w.heap.size W R ys hv h1 hm).mono ?_
  rintro e W' ⟨he, ⟨hv', k1, k2⟩, kb, _, ks⟩
  exact ⟨he, hid (h.moved h1 h2 k1 (by rcases k2 with k2 | k2; exact .inl k2; exact .inr (fun g hg => by rw [k2] at hg; cases hg)) kb (fun b _ hR _ => ks b hR))⟩
end Go.Proofs.YtehaomjfhiiifaaDoor
