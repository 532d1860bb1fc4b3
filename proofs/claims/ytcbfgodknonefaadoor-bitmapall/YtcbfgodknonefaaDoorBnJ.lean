/-
  goes: the body of its loop, case by case. Written by mkj.py.
-/
import Derived.Test.YtcbfgodknonefaaDoorBnI
namespace Go.Proofs.YtcbfgodknonefaaDoor
open Go.RowKit Go.Deep Bt
set_option linter.unusedVariables false
set_option maxRecDepth 100000
set_option maxHeartbeats 4000000
attribute [local go_sem] Oper.semAt_some

/-- only three blocks may have changed. -/
structure K3 (b N T : Nat) (w w' : World) : Prop where
  os : w'.os = w.os
  tape : w'.tape = w.tape
  output : w'.output = w.output
  size : w.heap.size ≤ w'.heap.size
  obj : ∀ j, j < w.heap.size → j ≠ b → j ≠ N → j ≠ T → w'.heap[j]? = w.heap[j]?
theorem K3.refl (b N T : Nat) (w : World) : K3 b N T w w := ⟨rfl, rfl, rfl, Nat.le_refl _, fun _ _ _ _ _ => rfl⟩
theorem K3.trans {b N T : Nat} {u v w : World} (h : K3 b N T u v) (k : K3 b N T v w) : K3 b N T u w := ⟨k.os.trans h.os, k.tape.trans h.tape, k.output.trans h.output, Nat.le_trans h.size k.size, fun j hj a c d => (k.obj j (Nat.lt_of_lt_of_le hj h.size) a c d).trans (h.obj j hj a c d)⟩
theorem Ko.k3 {b N T : Nat} {w w' : World} (h : Ko b w w') : K3 b N T w w' := ⟨h.os, h.tape, h.output, h.size, fun j hj a _ _ => h.obj j hj a⟩
theorem k3_below {b N T : Nat} {w w' : World} (h : Below w.heap.size w w') : K3 b N T w w' := ⟨h.os, h.tape, h.output, h.size, fun j hj _ _ _ => h.block j hj⟩
theorem k3_cell {b N T : Nat} (w : World) (g : Nat) (v : Value) (hg : g = N ∨ g = T) : K3 b N T w (w.setCell ⟨g, 0, none⟩ v) := by
  have h := grownBy_setCell' w g v
  refine ⟨h.os, h.tape, h.output, h.size, fun j hj a c d => h.block j hj (fun e => ?_)⟩
  cases e
  rcases hg with rfl | rfl
  · exact c rfl
  · exact d rfl
theorem K3.keeps {b N T : Nat} {w w' : World} (h : K3 b N T w w') {o1 o2 o3 : Obj} (h1 : w.heap[b]? = some o1) (h2 : w.heap[N]? = some o2) (h3 : w.heap[T]? = some o3) (c1 : o1.isCells = true) (c2 : o2.isCells = true) (c3 : o3.isCells = true) : KeepsOthers w w' :=
  ⟨h.size, fun k o hk ho => by
    rw [h.obj k (Array.getElem?_eq_some_iff.1 hk).1 (fun e => by subst e; rw [h1] at hk; cases hk; rw [c1] at ho; cases ho) (fun e => by subst e; rw [h2] at hk; cases hk; rw [c2] at ho; cases ho) (fun e => by subst e; rw [h3] at hk; cases hk; rw [c3] at ho; cases ho)]
    exact hk⟩
theorem K3.ab {b N T B : Nat} {w w' : World} (h : K3 b N T w w') (h1 : b < B) (h2 : N < B) (h3 : T < B) : Ab B w w' := fun k o hk ho => by
  rw [h.obj k (Array.getElem?_eq_some_iff.1 ho).1 (by omega) (by omega) (by omega)]
  exact ho
theorem blind_k3 {b N T : Nat} {w : World} : Blind w.heap.size (fun W => K3 b N T w W) := fun W W' row h hg hr =>
  ⟨hg.os.trans h.os, hg.tape.trans h.tape, hg.output.trans h.output, Nat.le_trans h.size hg.size, fun j hj a c d => (hg.block j (Nat.lt_of_lt_of_le hj h.size) (fun e => by have := (hr _ e.symm).1; omega)).trans (h.obj j hj a c d)⟩
theorem blind_bm {b B : Nat} {S : Nat → Bool} (hb : b < B) : Blind B (fun W => Bm W b S) := fun W W' row h hg hr =>
  h.same (hg.block b h.lt (fun e => by have := (hr _ e.symm).1; omega))

def rfOf : Code → Option Code
  | .rangeFunc _ _ _ b => some b
  | .seq a b => (rfOf a).or (rfOf b)
  | .block _ c => rfOf c
  | .loop c => rfOf c
  | .scope c => rfOf c
  | .cond _ a b => (rfOf a).or (rfOf b)
  | _ => none

theorem turned_go {b X O V N T : Nat} {S : Nat → Bool} {k x1 x2 A B : Int} {tb : Bool} {W W1 : World}
    (hD : (X ≠ b ∧ X ≠ N ∧ X ≠ T) ∧ (O ≠ b ∧ O ≠ N ∧ O ≠ T) ∧ (V ≠ b ∧ V ≠ N ∧ V ≠ T) ∧ N ≠ b ∧ T ≠ b ∧ N ≠ T)
    (hO : W.heap[O]? = some (.cells #[.int .i64 k, .int .i64 x1, .int .i64 x2, .int .i64 A, .int .i64 B] 35 (0, 0)))
    (hV : W.heap[V]? = some (.cells #[.int .i64 0] 3 (0, 0)))
    (hN : W.heap[N]? = some (.cells #[.int .i64 0] 3 (0, 0)))
    (hT : W.heap[T]? = some (.cells #[.bool tb] 4 (0, 0)))
    (hk : Ko b W W1) (hm : Bm W1 b (trn S A)) :
    ∃ W2 W3, W1.setCell ⟨T, 0, none⟩ (.bool (isT A)) = W2 ∧ W2.setCell ⟨N, 0, none⟩ (.int .i64 1) = W3
    ∧ Hid (K3 b N T W W3)
    ∧ Hid (W3.heap[N]? = some (.cells #[.int .i64 1] 3 (0, 0)) ∧ W3.heap[T]? = some (.cells #[.bool (isT A)] 4 (0, 0)) ∧ Bm W3 b (trn S A))
    ∧ W3.cell? ⟨N, 0, none⟩ = some (.int .i64 1)
    ∧ W3.cell? ⟨V, 0, none⟩ = some (.int .i64 0)
    ∧ W3.cell? ⟨O, 4, none⟩ = some (.int .i64 B)
    ∧ W1.frozen? ⟨T, 0, none⟩ = false
    ∧ W2.cell? ⟨N, 0, none⟩ = some (.int .i64 0)
    ∧ W2.frozen? ⟨N, 0, none⟩ = false
    ∧ W1.cell? ⟨T, 0, none⟩ = some (.bool tb) := by
  obtain ⟨dX, dO, dV, dN, dT, dNT⟩ := hD
  have lt : ∀ {j : Nat} {o : Obj}, W.heap[j]? = some o → j < W.heap.size := fun h => (Array.getElem?_eq_some_iff.1 h).1
  have o1 := (hk.obj O (lt hO) dO.1).trans hO
  have v1 := (hk.obj V (lt hV) dV.1).trans hV
  have n1 := (hk.obj N (lt hN) dN).trans hN
  have t1 := (hk.obj T (lt hT) dT).trans hT
  obtain ⟨W2, hW2⟩ : ∃ W2, W1.setCell ⟨T, 0, none⟩ (.bool (isT A)) = W2 := ⟨_, rfl⟩
  have o2 : W2.heap[O]? = some (.cells #[.int .i64 k, .int .i64 x1, .int .i64 x2, .int .i64 A, .int .i64 B] 35 (0, 0)) := by rw [← hW2, heap_setCell_other _ _ _ _ (by show O ≠ T; omega)]; exact o1
  have v2 : W2.heap[V]? = some (.cells #[.int .i64 0] 3 (0, 0)) := by rw [← hW2, heap_setCell_other _ _ _ _ (by show V ≠ T; omega)]; exact v1
  have n2 : W2.heap[N]? = some (.cells #[.int .i64 0] 3 (0, 0)) := by rw [← hW2, heap_setCell_other _ _ _ _ (by show N ≠ T; omega)]; exact n1
  have t2 : W2.heap[T]? = some (.cells #[.bool (isT A)] 4 (0, 0)) := by rw [← hW2, Go.heap_setCell_same _ _ _ _ _ _ t1]; rfl
  have b2 : Bm W2 b (trn S A) := hm.same (by rw [← hW2, heap_setCell_other _ _ _ _ (by show b ≠ T; omega)])
  obtain ⟨W3, hW3⟩ : ∃ W3, W2.setCell ⟨N, 0, none⟩ (.int .i64 1) = W3 := ⟨_, rfl⟩
  have o3 : W3.heap[O]? = some (.cells #[.int .i64 k, .int .i64 x1, .int .i64 x2, .int .i64 A, .int .i64 B] 35 (0, 0)) := by rw [← hW3, heap_setCell_other _ _ _ _ (by show O ≠ N; omega)]; exact o2
  have v3 : W3.heap[V]? = some (.cells #[.int .i64 0] 3 (0, 0)) := by rw [← hW3, heap_setCell_other _ _ _ _ (by show V ≠ N; omega)]; exact v2
  have n3 : W3.heap[N]? = some (.cells #[.int .i64 1] 3 (0, 0)) := by rw [← hW3, Go.heap_setCell_same _ _ _ _ _ _ n2]; rfl
  have t3 : W3.heap[T]? = some (.cells #[.bool (isT A)] 4 (0, 0)) := by rw [← hW3, heap_setCell_other _ _ _ _ (by show T ≠ N; omega)]; exact t2
  have b3 : Bm W3 b (trn S A) := b2.same (by rw [← hW3, heap_setCell_other _ _ _ _ (by show b ≠ N; omega)])
  have kk : K3 b N T W W3 := (Ko.k3 hk).trans ((show K3 b N T W1 W2 from by rw [← hW2]; exact k3_cell W1 T _ (.inr rfl)).trans (show K3 b N T W2 W3 from by rw [← hW3]; exact k3_cell W2 N _ (.inl rfl)))
  exact ⟨W2, W3, hW2, hW3, hid kk, hid ⟨n3, t3, b3⟩, row_cell n3 0, row_cell v3 0, row_cell o3 4, frozen_of_row W1 T 0 _ _ t1, row_cell n2 0, frozen_of_row W2 N 0 _ _ n2, row_cell t1 0⟩
theorem go9_tx (b X O R V N T i L cap : Nat) (S : Nat → Bool) (x1 x2 A B : Int) (tb : Bool) (g : Nat) (q : Nat) (l m : Nat) (hm : 1 ≤ m) {c : Code} (hc : (Tryd.f40.body.bind rfOf) = some c) (u0 u1 u5 u10 u11 u12 u13 u14 u15 u16 u17 u18 u19 u20 u21 u22 u23 u24 u25 u26 u28 u29 u30 u31 u32 u33 u34 u35 u36 u37 u38 u39 u40 u41 u42 u43 u44 u45 u46 u47 u48 u49 u50 u51 u52 u53 u54 u55 u56 u57 u58 u59 u60 u61 u62 u63 u64 u65 u66 u67 u68 u69 u70 u71 u72 u73 u74 u75 u76 u77 u78 u79 u80 u81 u82 u83 u84 u85 u86 u87 u88 u89 u90 u91 u92 u93 u94 u95 u96 u97 : Value) (W : World) (hB : Bm W b S)
    (hX : W.heap[X]? = some (.cells #[.pointer (some ⟨b, 0, none⟩), .slice (some ⟨g, 0, none⟩) L cap] 32 (0, 0)))
    (hO : W.heap[O]? = some (.cells #[.int .i64 9, .int .i64 x1, .int .i64 x2, .int .i64 A, .int .i64 B] 35 (0, 0)))
    (hV : W.heap[V]? = some (.cells #[.int .i64 0] 3 (0, 0)))
    (hN : W.heap[N]? = some (.cells #[.int .i64 0] 3 (0, 0)))
    (hT : W.heap[T]? = some (.cells #[.bool tb] 4 (0, 0)))
    (hl : W.cell? ⟨g, q, none⟩ = some (.int .i64 (i : Int)))
    (dX : X ≠ b ∧ X ≠ N ∧ X ≠ T) (dO : O ≠ b ∧ O ≠ N ∧ O ≠ T) (dV : V ≠ b ∧ V ≠ N ∧ V ≠ T) (dN : N ≠ b) (dT : T ≠ b) (dNT : N ≠ T)
    (hq : q = 0) (lq : q < L) (lL : L ≤ 262144) (li : i < 262144) (hb : 1 = B)
    {Q : Exit → Act → World → Prop} (hQ : ∀ a' W', K3 b N T W W' → W'.heap[N]? = some (.cells #[.int .i64 1] 3 (0, 0)) → W'.heap[T]? = some (.cells #[.bool (isT A)] 4 (0, 0)) → Bm W' b (trn S A) → Q (.exit 2) a' W') :
    c.wpIn (Fence.wide.inRound l) m Tryd.prog Q { tmps := #[u0, u1, .pointer (some ⟨X, 0, none⟩), .pointer (some ⟨O, 0, none⟩), .pointer (some ⟨R, 0, none⟩), u5, .pointer (some ⟨V, 0, none⟩), .pointer (some ⟨N, 0, none⟩), .pointer (some ⟨T, 0, none⟩), .int .i64 (i : Int), u10, u11, u12, u13, u14, u15, u16, u17, u18, u19, u20, u21, u22, u23, u24, u25, u26, .int .i64 (i : Int), u28, u29, u30, u31, u32, u33, u34, u35, u36, u37, u38, u39, u40, u41, u42, u43, u44, u45, u46, u47, u48, u49, u50, u51, u52, u53, u54, u55, u56, u57, u58, u59, u60, u61, u62, u63, u64, u65, u66, u67, u68, u69, u70, u71, u72, u73, u74, u75, u76, u77, u78, u79, u80, u81, u82, u83, u84, u85, u86, u87, u88, u89, u90, u91, u92, u93, u94, u95, u96, u97], defers := [] } W := by
  simp only [Tryd.f40, rfOf, Option.bind, Option.or] at hc
  injection hc with hc
  subst hc
  have HQ := hid hQ
  have HB := hid hB
  clear hQ hB
  subst hq
  subst hb
  have mX0 := row_cell hX 0
  have mX1 := row_cell hX 1
  have mO0 := row_cell hO 0
  have mO3 := row_cell hO 3
  have mO4 := row_cell hO 4
  have mV := row_cell hV 0
  have mN := row_cell hN 0
  simp only [List.getElem?_toArray, List.getElem?_cons_zero, List.getElem?_cons_succ] at mX0 mX1 mO0 mO3 mO4 mV mN
  have fN := frozen_of_row W N 0 _ _ hN
  have HO := hid hO
  have HX := hid hX
  have HV := hid hV
  have HN := hid hN
  have HT := hid hT
  have HD := hid (And.intro dX (And.intro dO (And.intro dV (And.intro dN (And.intro dT dNT)))))
  have CT := hid (turn_any b S (.slice (some ⟨g, 0, none⟩) L cap) A W HB.out rfl)
  clear hX hO hV hN hT dX dO dV dN dT dNT
  gi_wp2_with (refine ⟨trivial, ?_⟩; gi_at_call 52; refine (CallsIn.inRound l (callsIn_wide.2 CT.out)).mono ?_; clear CT; rintro e W1 ⟨rfl, hk, hm1⟩; obtain ⟨W2, W3, hW2, hW3, FIN, FR, p1, p3, p4, p5, p6, p7, p8⟩ := turned_go HD.out HO.out HV.out HN.out HT.out hk hm1)
  refine HQ.out _ _ FIN.out FR.out.1 FR.out.2.1 FR.out.2.2
theorem go9_t (b X O R V N T i L cap : Nat) (S : Nat → Bool) (x1 x2 A B : Int) (tb : Bool) (g : Nat) (q : Nat) (l m : Nat) (hm : 1 ≤ m) {c : Code} (hc : (Tryd.f40.body.bind rfOf) = some c) (u0 u1 u5 u10 u11 u12 u13 u14 u15 u16 u17 u18 u19 u20 u21 u22 u23 u24 u25 u26 u28 u29 u30 u31 u32 u33 u34 u35 u36 u37 u38 u39 u40 u41 u42 u43 u44 u45 u46 u47 u48 u49 u50 u51 u52 u53 u54 u55 u56 u57 u58 u59 u60 u61 u62 u63 u64 u65 u66 u67 u68 u69 u70 u71 u72 u73 u74 u75 u76 u77 u78 u79 u80 u81 u82 u83 u84 u85 u86 u87 u88 u89 u90 u91 u92 u93 u94 u95 u96 u97 : Value) (W : World) (hB : Bm W b S)
    (hX : W.heap[X]? = some (.cells #[.pointer (some ⟨b, 0, none⟩), .slice (some ⟨g, 0, none⟩) L cap] 32 (0, 0)))
    (hO : W.heap[O]? = some (.cells #[.int .i64 9, .int .i64 x1, .int .i64 x2, .int .i64 A, .int .i64 B] 35 (0, 0)))
    (hV : W.heap[V]? = some (.cells #[.int .i64 0] 3 (0, 0)))
    (hN : W.heap[N]? = some (.cells #[.int .i64 0] 3 (0, 0)))
    (hT : W.heap[T]? = some (.cells #[.bool tb] 4 (0, 0)))
    (hl : W.cell? ⟨g, q, none⟩ = some (.int .i64 (i : Int)))
    (dX : X ≠ b ∧ X ≠ N ∧ X ≠ T) (dO : O ≠ b ∧ O ≠ N ∧ O ≠ T) (dV : V ≠ b ∧ V ≠ N ∧ V ≠ T) (dN : N ≠ b) (dT : T ≠ b) (dNT : N ≠ T)
    (hq : q = 0) (lq : q < L) (lL : L ≤ 262144) (li : i < 262144) (hb : ¬ (1 = B))
    {Q : Exit → Act → World → Prop} (hQ : ∀ a' W', K3 b N T W W' → W'.heap[N]? = some (.cells #[.int .i64 1] 3 (0, 0)) → W'.heap[T]? = some (.cells #[.bool (isT A)] 4 (0, 0)) → Bm W' b (trn S A) → Q .normal a' W') :
    c.wpIn (Fence.wide.inRound l) m Tryd.prog Q { tmps := #[u0, u1, .pointer (some ⟨X, 0, none⟩), .pointer (some ⟨O, 0, none⟩), .pointer (some ⟨R, 0, none⟩), u5, .pointer (some ⟨V, 0, none⟩), .pointer (some ⟨N, 0, none⟩), .pointer (some ⟨T, 0, none⟩), .int .i64 (i : Int), u10, u11, u12, u13, u14, u15, u16, u17, u18, u19, u20, u21, u22, u23, u24, u25, u26, .int .i64 (i : Int), u28, u29, u30, u31, u32, u33, u34, u35, u36, u37, u38, u39, u40, u41, u42, u43, u44, u45, u46, u47, u48, u49, u50, u51, u52, u53, u54, u55, u56, u57, u58, u59, u60, u61, u62, u63, u64, u65, u66, u67, u68, u69, u70, u71, u72, u73, u74, u75, u76, u77, u78, u79, u80, u81, u82, u83, u84, u85, u86, u87, u88, u89, u90, u91, u92, u93, u94, u95, u96, u97], defers := [] } W := by
  simp only [Tryd.f40, rfOf, Option.bind, Option.or] at hc
  injection hc with hc
  subst hc
  have HQ := hid hQ
  have HB := hid hB
  clear hQ hB
  subst hq
  have mX0 := row_cell hX 0
  have mX1 := row_cell hX 1
  have mO0 := row_cell hO 0
  have mO3 := row_cell hO 3
  have mO4 := row_cell hO 4
  have mV := row_cell hV 0
  have mN := row_cell hN 0
  simp only [List.getElem?_toArray, List.getElem?_cons_zero, List.getElem?_cons_succ] at mX0 mX1 mO0 mO3 mO4 mV mN
  have fN := frozen_of_row W N 0 _ _ hN
  have HO := hid hO
  have HX := hid hX
  have HV := hid hV
  have HN := hid hN
  have HT := hid hT
  have HD := hid (And.intro dX (And.intro dO (And.intro dV (And.intro dN (And.intro dT dNT)))))
  have CT := hid (turn_any b S (.slice (some ⟨g, 0, none⟩) L cap) A W HB.out rfl)
  clear hX hO hV hN hT dX dO dV dN dT dNT
  gi_wp2_with (refine ⟨trivial, ?_⟩; gi_at_call 52; refine (CallsIn.inRound l (callsIn_wide.2 CT.out)).mono ?_; clear CT; rintro e W1 ⟨rfl, hk, hm1⟩; obtain ⟨W2, W3, hW2, hW3, FIN, FR, p1, p3, p4, p5, p6, p7, p8⟩ := turned_go HD.out HO.out HV.out HN.out HT.out hk hm1)
  refine HQ.out _ _ FIN.out FR.out.1 FR.out.2.1 FR.out.2.2
theorem go9_nx (b X O R V N T i L cap : Nat) (S : Nat → Bool) (x1 x2 A B : Int) (tb : Bool) (g : Nat) (n q : Nat) (l m : Nat) (hm : 1 ≤ m) {c : Code} (hc : (Tryd.f40.body.bind rfOf) = some c) (u0 u1 u5 u10 u11 u12 u13 u14 u15 u16 u17 u18 u19 u20 u21 u22 u23 u24 u25 u26 u28 u29 u30 u31 u32 u33 u34 u35 u36 u37 u38 u39 u40 u41 u42 u43 u44 u45 u46 u47 u48 u49 u50 u51 u52 u53 u54 u55 u56 u57 u58 u59 u60 u61 u62 u63 u64 u65 u66 u67 u68 u69 u70 u71 u72 u73 u74 u75 u76 u77 u78 u79 u80 u81 u82 u83 u84 u85 u86 u87 u88 u89 u90 u91 u92 u93 u94 u95 u96 u97 : Value) (W : World) (hB : Bm W b S)
    (hX : W.heap[X]? = some (.cells #[.pointer (some ⟨b, 0, none⟩), .slice (some ⟨g, 0, none⟩) L cap] 32 (0, 0)))
    (hO : W.heap[O]? = some (.cells #[.int .i64 9, .int .i64 x1, .int .i64 x2, .int .i64 A, .int .i64 B] 35 (0, 0)))
    (hV : W.heap[V]? = some (.cells #[.int .i64 0] 3 (0, 0)))
    (hN : W.heap[N]? = some (.cells #[.int .i64 (n : Int)] 3 (0, 0)))
    (hT : W.heap[T]? = some (.cells #[.bool tb] 4 (0, 0)))
    (hl : W.cell? ⟨g, q, none⟩ = some (.int .i64 (i : Int)))
    (dX : X ≠ b ∧ X ≠ N ∧ X ≠ T) (dO : O ≠ b ∧ O ≠ N ∧ O ≠ T) (dV : V ≠ b ∧ V ≠ N ∧ V ≠ T) (dN : N ≠ b) (dT : T ≠ b) (dNT : N ≠ T)
    (hq : q = n) (lq : q < L) (lL : L ≤ 262144) (li : i < 262144) (n0 : 0 < n) (hb : (n : Int) + 1 = B)
    {Q : Exit → Act → World → Prop} (hQ : ∀ a' W', K3 b N T W W' → W'.heap[N]? = some (.cells #[.int .i64 ((n + 1 : Nat) : Int)] 3 (0, 0)) → W'.heap[T]? = some (.cells #[.bool tb] 4 (0, 0)) → Bm W' b S → Q (.exit 2) a' W') :
    c.wpIn (Fence.wide.inRound l) m Tryd.prog Q { tmps := #[u0, u1, .pointer (some ⟨X, 0, none⟩), .pointer (some ⟨O, 0, none⟩), .pointer (some ⟨R, 0, none⟩), u5, .pointer (some ⟨V, 0, none⟩), .pointer (some ⟨N, 0, none⟩), .pointer (some ⟨T, 0, none⟩), .int .i64 (i : Int), u10, u11, u12, u13, u14, u15, u16, u17, u18, u19, u20, u21, u22, u23, u24, u25, u26, .int .i64 (i : Int), u28, u29, u30, u31, u32, u33, u34, u35, u36, u37, u38, u39, u40, u41, u42, u43, u44, u45, u46, u47, u48, u49, u50, u51, u52, u53, u54, u55, u56, u57, u58, u59, u60, u61, u62, u63, u64, u65, u66, u67, u68, u69, u70, u71, u72, u73, u74, u75, u76, u77, u78, u79, u80, u81, u82, u83, u84, u85, u86, u87, u88, u89, u90, u91, u92, u93, u94, u95, u96, u97], defers := [] } W := by
  simp only [Tryd.f40, rfOf, Option.bind, Option.or] at hc
  injection hc with hc
  subst hc
  have HQ := hid hQ
  have HB := hid hB
  clear hQ hB
  subst hq
  obtain ⟨n2, hn2⟩ : ∃ n2, q + 1 = n2 := ⟨_, rfl⟩
  have en : (q : Int) + 1 = (n2 : Int) := by omega
  rw [hn2] at HQ
  rw [en] at hb
  subst hb
  have mX0 := row_cell hX 0
  have mX1 := row_cell hX 1
  have mO0 := row_cell hO 0
  have mO3 := row_cell hO 3
  have mO4 := row_cell hO 4
  have mV := row_cell hV 0
  have mN := row_cell hN 0
  simp only [List.getElem?_toArray, List.getElem?_cons_zero, List.getElem?_cons_succ] at mX0 mX1 mO0 mO3 mO4 mV mN
  have fN := frozen_of_row W N 0 _ _ hN
  have nz : ¬ ((q : Int) = 0) := by omega
  obtain ⟨W3, hW3⟩ : ∃ W3, W.setCell ⟨N, 0, none⟩ (.int .i64 (n2 : Int)) = W3 := ⟨_, rfl⟩
  have r1 : W3.heap[N]? = some (.cells #[.int .i64 (n2 : Int)] 3 (0, 0)) := by rw [← hW3, Go.heap_setCell_same _ _ _ _ _ _ hN]; rfl
  have r2 : W3.heap[T]? = some (.cells #[.bool tb] 4 (0, 0)) := by rw [← hW3, heap_setCell_other _ _ _ _ (by show T ≠ N; omega)]; exact hT
  have r3 : W3.heap[V]? = some (.cells #[.int .i64 0] 3 (0, 0)) := by rw [← hW3, heap_setCell_other _ _ _ _ (by show V ≠ N; omega)]; exact hV
  have r4 : W3.heap[O]? = some (.cells #[.int .i64 9, .int .i64 x1, .int .i64 x2, .int .i64 A, .int .i64 (n2 : Int)] 35 (0, 0)) := by rw [← hW3, heap_setCell_other _ _ _ _ (by show O ≠ N; omega)]; exact hO
  have r5 : Bm W3 b S := HB.out.same (by rw [← hW3, heap_setCell_other _ _ _ _ (by show b ≠ N; omega)])
  have FIN := hid (show K3 b N T W W3 from by rw [← hW3]; exact k3_cell W N _ (.inl rfl))
  have FR := hid (And.intro r1 (And.intro r2 r5))
  have p1 := row_cell r1 0
  have p3 := row_cell r3 0
  have p4 := row_cell r4 4
  simp only [List.getElem?_toArray, List.getElem?_cons_zero, List.getElem?_cons_succ] at p1 p3 p4
  clear hX hO hV hN hT r1 r2 r3 r4 r5 dX dO dV dN dT dNT
  gi_wp2_with fail
  refine HQ.out _ _ FIN.out FR.out.1 FR.out.2.1 FR.out.2.2
theorem go9_n (b X O R V N T i L cap : Nat) (S : Nat → Bool) (x1 x2 A B : Int) (tb : Bool) (g : Nat) (n q : Nat) (l m : Nat) (hm : 1 ≤ m) {c : Code} (hc : (Tryd.f40.body.bind rfOf) = some c) (u0 u1 u5 u10 u11 u12 u13 u14 u15 u16 u17 u18 u19 u20 u21 u22 u23 u24 u25 u26 u28 u29 u30 u31 u32 u33 u34 u35 u36 u37 u38 u39 u40 u41 u42 u43 u44 u45 u46 u47 u48 u49 u50 u51 u52 u53 u54 u55 u56 u57 u58 u59 u60 u61 u62 u63 u64 u65 u66 u67 u68 u69 u70 u71 u72 u73 u74 u75 u76 u77 u78 u79 u80 u81 u82 u83 u84 u85 u86 u87 u88 u89 u90 u91 u92 u93 u94 u95 u96 u97 : Value) (W : World) (hB : Bm W b S)
    (hX : W.heap[X]? = some (.cells #[.pointer (some ⟨b, 0, none⟩), .slice (some ⟨g, 0, none⟩) L cap] 32 (0, 0)))
    (hO : W.heap[O]? = some (.cells #[.int .i64 9, .int .i64 x1, .int .i64 x2, .int .i64 A, .int .i64 B] 35 (0, 0)))
    (hV : W.heap[V]? = some (.cells #[.int .i64 0] 3 (0, 0)))
    (hN : W.heap[N]? = some (.cells #[.int .i64 (n : Int)] 3 (0, 0)))
    (hT : W.heap[T]? = some (.cells #[.bool tb] 4 (0, 0)))
    (hl : W.cell? ⟨g, q, none⟩ = some (.int .i64 (i : Int)))
    (dX : X ≠ b ∧ X ≠ N ∧ X ≠ T) (dO : O ≠ b ∧ O ≠ N ∧ O ≠ T) (dV : V ≠ b ∧ V ≠ N ∧ V ≠ T) (dN : N ≠ b) (dT : T ≠ b) (dNT : N ≠ T)
    (hq : q = n) (lq : q < L) (lL : L ≤ 262144) (li : i < 262144) (n0 : 0 < n) (hb : ¬ ((n : Int) + 1 = B))
    {Q : Exit → Act → World → Prop} (hQ : ∀ a' W', K3 b N T W W' → W'.heap[N]? = some (.cells #[.int .i64 ((n + 1 : Nat) : Int)] 3 (0, 0)) → W'.heap[T]? = some (.cells #[.bool tb] 4 (0, 0)) → Bm W' b S → Q .normal a' W') :
    c.wpIn (Fence.wide.inRound l) m Tryd.prog Q { tmps := #[u0, u1, .pointer (some ⟨X, 0, none⟩), .pointer (some ⟨O, 0, none⟩), .pointer (some ⟨R, 0, none⟩), u5, .pointer (some ⟨V, 0, none⟩), .pointer (some ⟨N, 0, none⟩), .pointer (some ⟨T, 0, none⟩), .int .i64 (i : Int), u10, u11, u12, u13, u14, u15, u16, u17, u18, u19, u20, u21, u22, u23, u24, u25, u26, .int .i64 (i : Int), u28, u29, u30, u31, u32, u33, u34, u35, u36, u37, u38, u39, u40, u41, u42, u43, u44, u45, u46, u47, u48, u49, u50, u51, u52, u53, u54, u55, u56, u57, u58, u59, u60, u61, u62, u63, u64, u65, u66, u67, u68, u69, u70, u71, u72, u73, u74, u75, u76, u77, u78, u79, u80, u81, u82, u83, u84, u85, u86, u87, u88, u89, u90, u91, u92, u93, u94, u95, u96, u97], defers := [] } W := by
  simp only [Tryd.f40, rfOf, Option.bind, Option.or] at hc
  injection hc with hc
  subst hc
  have HQ := hid hQ
  have HB := hid hB
  clear hQ hB
  subst hq
  obtain ⟨n2, hn2⟩ : ∃ n2, q + 1 = n2 := ⟨_, rfl⟩
  have en : (q : Int) + 1 = (n2 : Int) := by omega
  rw [hn2] at HQ
  rw [en] at hb
  have mX0 := row_cell hX 0
  have mX1 := row_cell hX 1
  have mO0 := row_cell hO 0
  have mO3 := row_cell hO 3
  have mO4 := row_cell hO 4
  have mV := row_cell hV 0
  have mN := row_cell hN 0
  simp only [List.getElem?_toArray, List.getElem?_cons_zero, List.getElem?_cons_succ] at mX0 mX1 mO0 mO3 mO4 mV mN
  have fN := frozen_of_row W N 0 _ _ hN
  have nz : ¬ ((q : Int) = 0) := by omega
  obtain ⟨W3, hW3⟩ : ∃ W3, W.setCell ⟨N, 0, none⟩ (.int .i64 (n2 : Int)) = W3 := ⟨_, rfl⟩
  have r1 : W3.heap[N]? = some (.cells #[.int .i64 (n2 : Int)] 3 (0, 0)) := by rw [← hW3, Go.heap_setCell_same _ _ _ _ _ _ hN]; rfl
  have r2 : W3.heap[T]? = some (.cells #[.bool tb] 4 (0, 0)) := by rw [← hW3, heap_setCell_other _ _ _ _ (by show T ≠ N; omega)]; exact hT
  have r3 : W3.heap[V]? = some (.cells #[.int .i64 0] 3 (0, 0)) := by rw [← hW3, heap_setCell_other _ _ _ _ (by show V ≠ N; omega)]; exact hV
  have r4 : W3.heap[O]? = some (.cells #[.int .i64 9, .int .i64 x1, .int .i64 x2, .int .i64 A, .int .i64 B] 35 (0, 0)) := by rw [← hW3, heap_setCell_other _ _ _ _ (by show O ≠ N; omega)]; exact hO
  have r5 : Bm W3 b S := HB.out.same (by rw [← hW3, heap_setCell_other _ _ _ _ (by show b ≠ N; omega)])
  have FIN := hid (show K3 b N T W W3 from by rw [← hW3]; exact k3_cell W N _ (.inl rfl))
  have FR := hid (And.intro r1 (And.intro r2 r5))
  have p1 := row_cell r1 0
  have p3 := row_cell r3 0
  have p4 := row_cell r4 4
  simp only [List.getElem?_toArray, List.getElem?_cons_zero, List.getElem?_cons_succ] at p1 p3 p4
  clear hX hO hV hN hT r1 r2 r3 r4 r5 dX dO dV dN dT dNT
  gi_wp2_with fail
  refine HQ.out _ _ FIN.out FR.out.1 FR.out.2.1 FR.out.2.2
theorem go9_s (b X O R V N T i L cap : Nat) (S : Nat → Bool) (x1 x2 A B : Int) (tb : Bool) (g : Nat) (n q : Nat) (l m : Nat) (hm : 1 ≤ m) {c : Code} (hc : (Tryd.f40.body.bind rfOf) = some c) (u0 u1 u5 u10 u11 u12 u13 u14 u15 u16 u17 u18 u19 u20 u21 u22 u23 u24 u25 u26 u28 u29 u30 u31 u32 u33 u34 u35 u36 u37 u38 u39 u40 u41 u42 u43 u44 u45 u46 u47 u48 u49 u50 u51 u52 u53 u54 u55 u56 u57 u58 u59 u60 u61 u62 u63 u64 u65 u66 u67 u68 u69 u70 u71 u72 u73 u74 u75 u76 u77 u78 u79 u80 u81 u82 u83 u84 u85 u86 u87 u88 u89 u90 u91 u92 u93 u94 u95 u96 u97 : Value) (W : World) (hB : Bm W b S)
    (hX : W.heap[X]? = some (.cells #[.pointer (some ⟨b, 0, none⟩), .slice (some ⟨g, 0, none⟩) L cap] 32 (0, 0)))
    (hO : W.heap[O]? = some (.cells #[.int .i64 9, .int .i64 x1, .int .i64 x2, .int .i64 A, .int .i64 B] 35 (0, 0)))
    (hV : W.heap[V]? = some (.cells #[.int .i64 1] 3 (0, 0)))
    (hN : W.heap[N]? = some (.cells #[.int .i64 (n : Int)] 3 (0, 0)))
    (hT : W.heap[T]? = some (.cells #[.bool tb] 4 (0, 0)))
    (hl : W.cell? ⟨g, q, none⟩ = some (.int .i64 (i : Int)))
    (dX : X ≠ b ∧ X ≠ N ∧ X ≠ T) (dO : O ≠ b ∧ O ≠ N ∧ O ≠ T) (dV : V ≠ b ∧ V ≠ N ∧ V ≠ T) (dN : N ≠ b) (dT : T ≠ b) (dNT : N ≠ T)
    (hq : q = n) (lq : q < L) (lL : L ≤ 262144) (li : i < 262144)
    {Q : Exit → Act → World → Prop} (hQ : ∀ a' W', K3 b N T W W' → W'.heap[N]? = some (.cells #[.int .i64 ((n + 1 : Nat) : Int)] 3 (0, 0)) → W'.heap[T]? = some (.cells #[.bool tb] 4 (0, 0)) → Bm W' b S → Q .normal a' W') :
    c.wpIn (Fence.wide.inRound l) m Tryd.prog Q { tmps := #[u0, u1, .pointer (some ⟨X, 0, none⟩), .pointer (some ⟨O, 0, none⟩), .pointer (some ⟨R, 0, none⟩), u5, .pointer (some ⟨V, 0, none⟩), .pointer (some ⟨N, 0, none⟩), .pointer (some ⟨T, 0, none⟩), .int .i64 (i : Int), u10, u11, u12, u13, u14, u15, u16, u17, u18, u19, u20, u21, u22, u23, u24, u25, u26, .int .i64 (i : Int), u28, u29, u30, u31, u32, u33, u34, u35, u36, u37, u38, u39, u40, u41, u42, u43, u44, u45, u46, u47, u48, u49, u50, u51, u52, u53, u54, u55, u56, u57, u58, u59, u60, u61, u62, u63, u64, u65, u66, u67, u68, u69, u70, u71, u72, u73, u74, u75, u76, u77, u78, u79, u80, u81, u82, u83, u84, u85, u86, u87, u88, u89, u90, u91, u92, u93, u94, u95, u96, u97], defers := [] } W := by
  simp only [Tryd.f40, rfOf, Option.bind, Option.or] at hc
  injection hc with hc
  subst hc
  have HQ := hid hQ
  have HB := hid hB
  clear hQ hB
  subst hq
  obtain ⟨n2, hn2⟩ : ∃ n2, q + 1 = n2 := ⟨_, rfl⟩
  have en : (q : Int) + 1 = (n2 : Int) := by omega
  rw [hn2] at HQ
  have mX0 := row_cell hX 0
  have mX1 := row_cell hX 1
  have mO0 := row_cell hO 0
  have mO3 := row_cell hO 3
  have mO4 := row_cell hO 4
  have mV := row_cell hV 0
  have mN := row_cell hN 0
  simp only [List.getElem?_toArray, List.getElem?_cons_zero, List.getElem?_cons_succ] at mX0 mX1 mO0 mO3 mO4 mV mN
  have fN := frozen_of_row W N 0 _ _ hN
  obtain ⟨W3, hW3⟩ : ∃ W3, W.setCell ⟨N, 0, none⟩ (.int .i64 (n2 : Int)) = W3 := ⟨_, rfl⟩
  have r1 : W3.heap[N]? = some (.cells #[.int .i64 (n2 : Int)] 3 (0, 0)) := by rw [← hW3, Go.heap_setCell_same _ _ _ _ _ _ hN]; rfl
  have r2 : W3.heap[T]? = some (.cells #[.bool tb] 4 (0, 0)) := by rw [← hW3, heap_setCell_other _ _ _ _ (by show T ≠ N; omega)]; exact hT
  have r3 : W3.heap[V]? = some (.cells #[.int .i64 1] 3 (0, 0)) := by rw [← hW3, heap_setCell_other _ _ _ _ (by show V ≠ N; omega)]; exact hV
  have r4 : W3.heap[O]? = some (.cells #[.int .i64 9, .int .i64 x1, .int .i64 x2, .int .i64 A, .int .i64 B] 35 (0, 0)) := by rw [← hW3, heap_setCell_other _ _ _ _ (by show O ≠ N; omega)]; exact hO
  have r5 : Bm W3 b S := HB.out.same (by rw [← hW3, heap_setCell_other _ _ _ _ (by show b ≠ N; omega)])
  have FIN := hid (show K3 b N T W W3 from by rw [← hW3]; exact k3_cell W N _ (.inl rfl))
  have FR := hid (And.intro r1 (And.intro r2 r5))
  have p1 := row_cell r1 0
  have p3 := row_cell r3 0
  have p4 := row_cell r4 4
  simp only [List.getElem?_toArray, List.getElem?_cons_zero, List.getElem?_cons_succ] at p1 p3 p4
  clear hX hO hV hN hT r1 r2 r3 r4 r5 dX dO dV dN dT dNT
  gi_wp2_with fail
  refine HQ.out _ _ FIN.out FR.out.1 FR.out.2.1 FR.out.2.2
theorem go10_tx (b X O R V N T i L cap : Nat) (S : Nat → Bool) (x1 x2 A B : Int) (tb : Bool) (g : Nat) (q : Nat) (l m : Nat) (hm : 1 ≤ m) {c : Code} (hc : (Tryd.f40.body.bind rfOf) = some c) (u0 u1 u5 u10 u11 u12 u13 u14 u15 u16 u17 u18 u19 u20 u21 u22 u23 u24 u25 u26 u28 u29 u30 u31 u32 u33 u34 u35 u36 u37 u38 u39 u40 u41 u42 u43 u44 u45 u46 u47 u48 u49 u50 u51 u52 u53 u54 u55 u56 u57 u58 u59 u60 u61 u62 u63 u64 u65 u66 u67 u68 u69 u70 u71 u72 u73 u74 u75 u76 u77 u78 u79 u80 u81 u82 u83 u84 u85 u86 u87 u88 u89 u90 u91 u92 u93 u94 u95 u96 u97 : Value) (W : World) (hB : Bm W b S)
    (hX : W.heap[X]? = some (.cells #[.pointer (some ⟨b, 0, none⟩), .slice (some ⟨g, 0, none⟩) L cap] 32 (0, 0)))
    (hO : W.heap[O]? = some (.cells #[.int .i64 10, .int .i64 x1, .int .i64 x2, .int .i64 A, .int .i64 B] 35 (0, 0)))
    (hV : W.heap[V]? = some (.cells #[.int .i64 0] 3 (0, 0)))
    (hN : W.heap[N]? = some (.cells #[.int .i64 0] 3 (0, 0)))
    (hT : W.heap[T]? = some (.cells #[.bool tb] 4 (0, 0)))
    (hl : W.cell? ⟨g, q, none⟩ = some (.int .i64 (i : Int)))
    (dX : X ≠ b ∧ X ≠ N ∧ X ≠ T) (dO : O ≠ b ∧ O ≠ N ∧ O ≠ T) (dV : V ≠ b ∧ V ≠ N ∧ V ≠ T) (dN : N ≠ b) (dT : T ≠ b) (dNT : N ≠ T)
    (hq : q + 1 = L) (lq : q < L) (lL : L ≤ 262144) (li : i < 262144) (hb : 1 = B)
    {Q : Exit → Act → World → Prop} (hQ : ∀ a' W', K3 b N T W W' → W'.heap[N]? = some (.cells #[.int .i64 1] 3 (0, 0)) → W'.heap[T]? = some (.cells #[.bool (isT A)] 4 (0, 0)) → Bm W' b (trn S A) → Q (.exit 2) a' W') :
    c.wpIn (Fence.wide.inRound l) m Tryd.prog Q { tmps := #[u0, u1, .pointer (some ⟨X, 0, none⟩), .pointer (some ⟨O, 0, none⟩), .pointer (some ⟨R, 0, none⟩), u5, .pointer (some ⟨V, 0, none⟩), .pointer (some ⟨N, 0, none⟩), .pointer (some ⟨T, 0, none⟩), .int .i64 (i : Int), u10, u11, u12, u13, u14, u15, u16, u17, u18, u19, u20, u21, u22, u23, u24, u25, u26, .int .i64 (i : Int), u28, u29, u30, u31, u32, u33, u34, u35, u36, u37, u38, u39, u40, u41, u42, u43, u44, u45, u46, u47, u48, u49, u50, u51, u52, u53, u54, u55, u56, u57, u58, u59, u60, u61, u62, u63, u64, u65, u66, u67, u68, u69, u70, u71, u72, u73, u74, u75, u76, u77, u78, u79, u80, u81, u82, u83, u84, u85, u86, u87, u88, u89, u90, u91, u92, u93, u94, u95, u96, u97], defers := [] } W := by
  simp only [Tryd.f40, rfOf, Option.bind, Option.or] at hc
  injection hc with hc
  subst hc
  have HQ := hid hQ
  have HB := hid hB
  clear hQ hB
  have eL1 : (L : Int) - 1 = (q : Int) := by omega
  subst hb
  have mX0 := row_cell hX 0
  have mX1 := row_cell hX 1
  have mO0 := row_cell hO 0
  have mO3 := row_cell hO 3
  have mO4 := row_cell hO 4
  have mV := row_cell hV 0
  have mN := row_cell hN 0
  simp only [List.getElem?_toArray, List.getElem?_cons_zero, List.getElem?_cons_succ] at mX0 mX1 mO0 mO3 mO4 mV mN
  have fN := frozen_of_row W N 0 _ _ hN
  have HO := hid hO
  have HX := hid hX
  have HV := hid hV
  have HN := hid hN
  have HT := hid hT
  have HD := hid (And.intro dX (And.intro dO (And.intro dV (And.intro dN (And.intro dT dNT)))))
  have CT := hid (turn_any b S (.slice (some ⟨g, 0, none⟩) L cap) A W HB.out rfl)
  clear hX hO hV hN hT dX dO dV dN dT dNT
  gi_wp2_with (refine ⟨trivial, ?_⟩; gi_at_call 52; refine (CallsIn.inRound l (callsIn_wide.2 CT.out)).mono ?_; clear CT; rintro e W1 ⟨rfl, hk, hm1⟩; obtain ⟨W2, W3, hW2, hW3, FIN, FR, p1, p3, p4, p5, p6, p7, p8⟩ := turned_go HD.out HO.out HV.out HN.out HT.out hk hm1)
  refine HQ.out _ _ FIN.out FR.out.1 FR.out.2.1 FR.out.2.2
theorem go10_t (b X O R V N T i L cap : Nat) (S : Nat → Bool) (x1 x2 A B : Int) (tb : Bool) (g : Nat) (q : Nat) (l m : Nat) (hm : 1 ≤ m) {c : Code} (hc : (Tryd.f40.body.bind rfOf) = some c) (u0 u1 u5 u10 u11 u12 u13 u14 u15 u16 u17 u18 u19 u20 u21 u22 u23 u24 u25 u26 u28 u29 u30 u31 u32 u33 u34 u35 u36 u37 u38 u39 u40 u41 u42 u43 u44 u45 u46 u47 u48 u49 u50 u51 u52 u53 u54 u55 u56 u57 u58 u59 u60 u61 u62 u63 u64 u65 u66 u67 u68 u69 u70 u71 u72 u73 u74 u75 u76 u77 u78 u79 u80 u81 u82 u83 u84 u85 u86 u87 u88 u89 u90 u91 u92 u93 u94 u95 u96 u97 : Value) (W : World) (hB : Bm W b S)
    (hX : W.heap[X]? = some (.cells #[.pointer (some ⟨b, 0, none⟩), .slice (some ⟨g, 0, none⟩) L cap] 32 (0, 0)))
    (hO : W.heap[O]? = some (.cells #[.int .i64 10, .int .i64 x1, .int .i64 x2, .int .i64 A, .int .i64 B] 35 (0, 0)))
    (hV : W.heap[V]? = some (.cells #[.int .i64 0] 3 (0, 0)))
    (hN : W.heap[N]? = some (.cells #[.int .i64 0] 3 (0, 0)))
    (hT : W.heap[T]? = some (.cells #[.bool tb] 4 (0, 0)))
    (hl : W.cell? ⟨g, q, none⟩ = some (.int .i64 (i : Int)))
    (dX : X ≠ b ∧ X ≠ N ∧ X ≠ T) (dO : O ≠ b ∧ O ≠ N ∧ O ≠ T) (dV : V ≠ b ∧ V ≠ N ∧ V ≠ T) (dN : N ≠ b) (dT : T ≠ b) (dNT : N ≠ T)
    (hq : q + 1 = L) (lq : q < L) (lL : L ≤ 262144) (li : i < 262144) (hb : ¬ (1 = B))
    {Q : Exit → Act → World → Prop} (hQ : ∀ a' W', K3 b N T W W' → W'.heap[N]? = some (.cells #[.int .i64 1] 3 (0, 0)) → W'.heap[T]? = some (.cells #[.bool (isT A)] 4 (0, 0)) → Bm W' b (trn S A) → Q .normal a' W') :
    c.wpIn (Fence.wide.inRound l) m Tryd.prog Q { tmps := #[u0, u1, .pointer (some ⟨X, 0, none⟩), .pointer (some ⟨O, 0, none⟩), .pointer (some ⟨R, 0, none⟩), u5, .pointer (some ⟨V, 0, none⟩), .pointer (some ⟨N, 0, none⟩), .pointer (some ⟨T, 0, none⟩), .int .i64 (i : Int), u10, u11, u12, u13, u14, u15, u16, u17, u18, u19, u20, u21, u22, u23, u24, u25, u26, .int .i64 (i : Int), u28, u29, u30, u31, u32, u33, u34, u35, u36, u37, u38, u39, u40, u41, u42, u43, u44, u45, u46, u47, u48, u49, u50, u51, u52, u53, u54, u55, u56, u57, u58, u59, u60, u61, u62, u63, u64, u65, u66, u67, u68, u69, u70, u71, u72, u73, u74, u75, u76, u77, u78, u79, u80, u81, u82, u83, u84, u85, u86, u87, u88, u89, u90, u91, u92, u93, u94, u95, u96, u97], defers := [] } W := by
  simp only [Tryd.f40, rfOf, Option.bind, Option.or] at hc
  injection hc with hc
  subst hc
  have HQ := hid hQ
  have HB := hid hB
  clear hQ hB
  have eL1 : (L : Int) - 1 = (q : Int) := by omega
  have mX0 := row_cell hX 0
  have mX1 := row_cell hX 1
  have mO0 := row_cell hO 0
  have mO3 := row_cell hO 3
  have mO4 := row_cell hO 4
  have mV := row_cell hV 0
  have mN := row_cell hN 0
  simp only [List.getElem?_toArray, List.getElem?_cons_zero, List.getElem?_cons_succ] at mX0 mX1 mO0 mO3 mO4 mV mN
  have fN := frozen_of_row W N 0 _ _ hN
  have HO := hid hO
  have HX := hid hX
  have HV := hid hV
  have HN := hid hN
  have HT := hid hT
  have HD := hid (And.intro dX (And.intro dO (And.intro dV (And.intro dN (And.intro dT dNT)))))
  have CT := hid (turn_any b S (.slice (some ⟨g, 0, none⟩) L cap) A W HB.out rfl)
  clear hX hO hV hN hT dX dO dV dN dT dNT
  gi_wp2_with (refine ⟨trivial, ?_⟩; gi_at_call 52; refine (CallsIn.inRound l (callsIn_wide.2 CT.out)).mono ?_; clear CT; rintro e W1 ⟨rfl, hk, hm1⟩; obtain ⟨W2, W3, hW2, hW3, FIN, FR, p1, p3, p4, p5, p6, p7, p8⟩ := turned_go HD.out HO.out HV.out HN.out HT.out hk hm1)
  refine HQ.out _ _ FIN.out FR.out.1 FR.out.2.1 FR.out.2.2
theorem go10_nx (b X O R V N T i L cap : Nat) (S : Nat → Bool) (x1 x2 A B : Int) (tb : Bool) (g : Nat) (n q : Nat) (l m : Nat) (hm : 1 ≤ m) {c : Code} (hc : (Tryd.f40.body.bind rfOf) = some c) (u0 u1 u5 u10 u11 u12 u13 u14 u15 u16 u17 u18 u19 u20 u21 u22 u23 u24 u25 u26 u28 u29 u30 u31 u32 u33 u34 u35 u36 u37 u38 u39 u40 u41 u42 u43 u44 u45 u46 u47 u48 u49 u50 u51 u52 u53 u54 u55 u56 u57 u58 u59 u60 u61 u62 u63 u64 u65 u66 u67 u68 u69 u70 u71 u72 u73 u74 u75 u76 u77 u78 u79 u80 u81 u82 u83 u84 u85 u86 u87 u88 u89 u90 u91 u92 u93 u94 u95 u96 u97 : Value) (W : World) (hB : Bm W b S)
    (hX : W.heap[X]? = some (.cells #[.pointer (some ⟨b, 0, none⟩), .slice (some ⟨g, 0, none⟩) L cap] 32 (0, 0)))
    (hO : W.heap[O]? = some (.cells #[.int .i64 10, .int .i64 x1, .int .i64 x2, .int .i64 A, .int .i64 B] 35 (0, 0)))
    (hV : W.heap[V]? = some (.cells #[.int .i64 0] 3 (0, 0)))
    (hN : W.heap[N]? = some (.cells #[.int .i64 (n : Int)] 3 (0, 0)))
    (hT : W.heap[T]? = some (.cells #[.bool tb] 4 (0, 0)))
    (hl : W.cell? ⟨g, q, none⟩ = some (.int .i64 (i : Int)))
    (dX : X ≠ b ∧ X ≠ N ∧ X ≠ T) (dO : O ≠ b ∧ O ≠ N ∧ O ≠ T) (dV : V ≠ b ∧ V ≠ N ∧ V ≠ T) (dN : N ≠ b) (dT : T ≠ b) (dNT : N ≠ T)
    (hq : q + n + 1 = L) (lq : q < L) (lL : L ≤ 262144) (li : i < 262144) (n0 : 0 < n) (hb : (n : Int) + 1 = B)
    {Q : Exit → Act → World → Prop} (hQ : ∀ a' W', K3 b N T W W' → W'.heap[N]? = some (.cells #[.int .i64 ((n + 1 : Nat) : Int)] 3 (0, 0)) → W'.heap[T]? = some (.cells #[.bool tb] 4 (0, 0)) → Bm W' b S → Q (.exit 2) a' W') :
    c.wpIn (Fence.wide.inRound l) m Tryd.prog Q { tmps := #[u0, u1, .pointer (some ⟨X, 0, none⟩), .pointer (some ⟨O, 0, none⟩), .pointer (some ⟨R, 0, none⟩), u5, .pointer (some ⟨V, 0, none⟩), .pointer (some ⟨N, 0, none⟩), .pointer (some ⟨T, 0, none⟩), .int .i64 (i : Int), u10, u11, u12, u13, u14, u15, u16, u17, u18, u19, u20, u21, u22, u23, u24, u25, u26, .int .i64 (i : Int), u28, u29, u30, u31, u32, u33, u34, u35, u36, u37, u38, u39, u40, u41, u42, u43, u44, u45, u46, u47, u48, u49, u50, u51, u52, u53, u54, u55, u56, u57, u58, u59, u60, u61, u62, u63, u64, u65, u66, u67, u68, u69, u70, u71, u72, u73, u74, u75, u76, u77, u78, u79, u80, u81, u82, u83, u84, u85, u86, u87, u88, u89, u90, u91, u92, u93, u94, u95, u96, u97], defers := [] } W := by
  simp only [Tryd.f40, rfOf, Option.bind, Option.or] at hc
  injection hc with hc
  subst hc
  have HQ := hid hQ
  have HB := hid hB
  clear hQ hB
  obtain ⟨L2, hL2⟩ : ∃ L2, L - 1 = L2 := ⟨_, rfl⟩
  have eL1 : (L : Int) - 1 = (L2 : Int) := by omega
  have eL2 : (L2 : Int) - (n : Int) = (q : Int) := by omega
  have L2b : L2 < 262144 := by omega
  obtain ⟨n2, hn2⟩ : ∃ n2, n + 1 = n2 := ⟨_, rfl⟩
  have en : (n : Int) + 1 = (n2 : Int) := by omega
  rw [hn2] at HQ
  rw [en] at hb
  subst hb
  have mX0 := row_cell hX 0
  have mX1 := row_cell hX 1
  have mO0 := row_cell hO 0
  have mO3 := row_cell hO 3
  have mO4 := row_cell hO 4
  have mV := row_cell hV 0
  have mN := row_cell hN 0
  simp only [List.getElem?_toArray, List.getElem?_cons_zero, List.getElem?_cons_succ] at mX0 mX1 mO0 mO3 mO4 mV mN
  have fN := frozen_of_row W N 0 _ _ hN
  have nz : ¬ ((n : Int) = 0) := by omega
  obtain ⟨W3, hW3⟩ : ∃ W3, W.setCell ⟨N, 0, none⟩ (.int .i64 (n2 : Int)) = W3 := ⟨_, rfl⟩
  have r1 : W3.heap[N]? = some (.cells #[.int .i64 (n2 : Int)] 3 (0, 0)) := by rw [← hW3, Go.heap_setCell_same _ _ _ _ _ _ hN]; rfl
  have r2 : W3.heap[T]? = some (.cells #[.bool tb] 4 (0, 0)) := by rw [← hW3, heap_setCell_other _ _ _ _ (by show T ≠ N; omega)]; exact hT
  have r3 : W3.heap[V]? = some (.cells #[.int .i64 0] 3 (0, 0)) := by rw [← hW3, heap_setCell_other _ _ _ _ (by show V ≠ N; omega)]; exact hV
  have r4 : W3.heap[O]? = some (.cells #[.int .i64 10, .int .i64 x1, .int .i64 x2, .int .i64 A, .int .i64 (n2 : Int)] 35 (0, 0)) := by rw [← hW3, heap_setCell_other _ _ _ _ (by show O ≠ N; omega)]; exact hO
  have r5 : Bm W3 b S := HB.out.same (by rw [← hW3, heap_setCell_other _ _ _ _ (by show b ≠ N; omega)])
  have FIN := hid (show K3 b N T W W3 from by rw [← hW3]; exact k3_cell W N _ (.inl rfl))
  have FR := hid (And.intro r1 (And.intro r2 r5))
  have p1 := row_cell r1 0
  have p3 := row_cell r3 0
  have p4 := row_cell r4 4
  simp only [List.getElem?_toArray, List.getElem?_cons_zero, List.getElem?_cons_succ] at p1 p3 p4
  clear hX hO hV hN hT r1 r2 r3 r4 r5 dX dO dV dN dT dNT
  gi_wp2_with fail
  refine HQ.out _ _ FIN.out FR.out.1 FR.out.2.1 FR.out.2.2
theorem go10_n (b X O R V N T i L cap : Nat) (S : Nat → Bool) (x1 x2 A B : Int) (tb : Bool) (g : Nat) (n q : Nat) (l m : Nat) (hm : 1 ≤ m) {c : Code} (hc : (Tryd.f40.body.bind rfOf) = some c) (u0 u1 u5 u10 u11 u12 u13 u14 u15 u16 u17 u18 u19 u20 u21 u22 u23 u24 u25 u26 u28 u29 u30 u31 u32 u33 u34 u35 u36 u37 u38 u39 u40 u41 u42 u43 u44 u45 u46 u47 u48 u49 u50 u51 u52 u53 u54 u55 u56 u57 u58 u59 u60 u61 u62 u63 u64 u65 u66 u67 u68 u69 u70 u71 u72 u73 u74 u75 u76 u77 u78 u79 u80 u81 u82 u83 u84 u85 u86 u87 u88 u89 u90 u91 u92 u93 u94 u95 u96 u97 : Value) (W : World) (hB : Bm W b S)
    (hX : W.heap[X]? = some (.cells #[.pointer (some ⟨b, 0, none⟩), .slice (some ⟨g, 0, none⟩) L cap] 32 (0, 0)))
    (hO : W.heap[O]? = some (.cells #[.int .i64 10, .int .i64 x1, .int .i64 x2, .int .i64 A, .int .i64 B] 35 (0, 0)))
    (hV : W.heap[V]? = some (.cells #[.int .i64 0] 3 (0, 0)))
    (hN : W.heap[N]? = some (.cells #[.int .i64 (n : Int)] 3 (0, 0)))
    (hT : W.heap[T]? = some (.cells #[.bool tb] 4 (0, 0)))
    (hl : W.cell? ⟨g, q, none⟩ = some (.int .i64 (i : Int)))
    (dX : X ≠ b ∧ X ≠ N ∧ X ≠ T) (dO : O ≠ b ∧ O ≠ N ∧ O ≠ T) (dV : V ≠ b ∧ V ≠ N ∧ V ≠ T) (dN : N ≠ b) (dT : T ≠ b) (dNT : N ≠ T)
    (hq : q + n + 1 = L) (lq : q < L) (lL : L ≤ 262144) (li : i < 262144) (n0 : 0 < n) (hb : ¬ ((n : Int) + 1 = B))
    {Q : Exit → Act → World → Prop} (hQ : ∀ a' W', K3 b N T W W' → W'.heap[N]? = some (.cells #[.int .i64 ((n + 1 : Nat) : Int)] 3 (0, 0)) → W'.heap[T]? = some (.cells #[.bool tb] 4 (0, 0)) → Bm W' b S → Q .normal a' W') :
    c.wpIn (Fence.wide.inRound l) m Tryd.prog Q { tmps := #[u0, u1, .pointer (some ⟨X, 0, none⟩), .pointer (some ⟨O, 0, none⟩), .pointer (some ⟨R, 0, none⟩), u5, .pointer (some ⟨V, 0, none⟩), .pointer (some ⟨N, 0, none⟩), .pointer (some ⟨T, 0, none⟩), .int .i64 (i : Int), u10, u11, u12, u13, u14, u15, u16, u17, u18, u19, u20, u21, u22, u23, u24, u25, u26, .int .i64 (i : Int), u28, u29, u30, u31, u32, u33, u34, u35, u36, u37, u38, u39, u40, u41, u42, u43, u44, u45, u46, u47, u48, u49, u50, u51, u52, u53, u54, u55, u56, u57, u58, u59, u60, u61, u62, u63, u64, u65, u66, u67, u68, u69, u70, u71, u72, u73, u74, u75, u76, u77, u78, u79, u80, u81, u82, u83, u84, u85, u86, u87, u88, u89, u90, u91, u92, u93, u94, u95, u96, u97], defers := [] } W := by
  simp only [Tryd.f40, rfOf, Option.bind, Option.or] at hc
  injection hc with hc
  subst hc
  have HQ := hid hQ
  have HB := hid hB
  clear hQ hB
  obtain ⟨L2, hL2⟩ : ∃ L2, L - 1 = L2 := ⟨_, rfl⟩
  have eL1 : (L : Int) - 1 = (L2 : Int) := by omega
  have eL2 : (L2 : Int) - (n : Int) = (q : Int) := by omega
  have L2b : L2 < 262144 := by omega
  obtain ⟨n2, hn2⟩ : ∃ n2, n + 1 = n2 := ⟨_, rfl⟩
  have en : (n : Int) + 1 = (n2 : Int) := by omega
  rw [hn2] at HQ
  rw [en] at hb
  have mX0 := row_cell hX 0
  have mX1 := row_cell hX 1
  have mO0 := row_cell hO 0
  have mO3 := row_cell hO 3
  have mO4 := row_cell hO 4
  have mV := row_cell hV 0
  have mN := row_cell hN 0
  simp only [List.getElem?_toArray, List.getElem?_cons_zero, List.getElem?_cons_succ] at mX0 mX1 mO0 mO3 mO4 mV mN
  have fN := frozen_of_row W N 0 _ _ hN
  have nz : ¬ ((n : Int) = 0) := by omega
  obtain ⟨W3, hW3⟩ : ∃ W3, W.setCell ⟨N, 0, none⟩ (.int .i64 (n2 : Int)) = W3 := ⟨_, rfl⟩
  have r1 : W3.heap[N]? = some (.cells #[.int .i64 (n2 : Int)] 3 (0, 0)) := by rw [← hW3, Go.heap_setCell_same _ _ _ _ _ _ hN]; rfl
  have r2 : W3.heap[T]? = some (.cells #[.bool tb] 4 (0, 0)) := by rw [← hW3, heap_setCell_other _ _ _ _ (by show T ≠ N; omega)]; exact hT
  have r3 : W3.heap[V]? = some (.cells #[.int .i64 0] 3 (0, 0)) := by rw [← hW3, heap_setCell_other _ _ _ _ (by show V ≠ N; omega)]; exact hV
  have r4 : W3.heap[O]? = some (.cells #[.int .i64 10, .int .i64 x1, .int .i64 x2, .int .i64 A, .int .i64 B] 35 (0, 0)) := by rw [← hW3, heap_setCell_other _ _ _ _ (by show O ≠ N; omega)]; exact hO
  have r5 : Bm W3 b S := HB.out.same (by rw [← hW3, heap_setCell_other _ _ _ _ (by show b ≠ N; omega)])
  have FIN := hid (show K3 b N T W W3 from by rw [← hW3]; exact k3_cell W N _ (.inl rfl))
  have FR := hid (And.intro r1 (And.intro r2 r5))
  have p1 := row_cell r1 0
  have p3 := row_cell r3 0
  have p4 := row_cell r4 4
  simp only [List.getElem?_toArray, List.getElem?_cons_zero, List.getElem?_cons_succ] at p1 p3 p4
  clear hX hO hV hN hT r1 r2 r3 r4 r5 dX dO dV dN dT dNT
  gi_wp2_with fail
  refine HQ.out _ _ FIN.out FR.out.1 FR.out.2.1 FR.out.2.2
theorem go10_s (b X O R V N T i L cap : Nat) (S : Nat → Bool) (x1 x2 A B : Int) (tb : Bool) (g : Nat) (n q : Nat) (l m : Nat) (hm : 1 ≤ m) {c : Code} (hc : (Tryd.f40.body.bind rfOf) = some c) (u0 u1 u5 u10 u11 u12 u13 u14 u15 u16 u17 u18 u19 u20 u21 u22 u23 u24 u25 u26 u28 u29 u30 u31 u32 u33 u34 u35 u36 u37 u38 u39 u40 u41 u42 u43 u44 u45 u46 u47 u48 u49 u50 u51 u52 u53 u54 u55 u56 u57 u58 u59 u60 u61 u62 u63 u64 u65 u66 u67 u68 u69 u70 u71 u72 u73 u74 u75 u76 u77 u78 u79 u80 u81 u82 u83 u84 u85 u86 u87 u88 u89 u90 u91 u92 u93 u94 u95 u96 u97 : Value) (W : World) (hB : Bm W b S)
    (hX : W.heap[X]? = some (.cells #[.pointer (some ⟨b, 0, none⟩), .slice (some ⟨g, 0, none⟩) L cap] 32 (0, 0)))
    (hO : W.heap[O]? = some (.cells #[.int .i64 10, .int .i64 x1, .int .i64 x2, .int .i64 A, .int .i64 B] 35 (0, 0)))
    (hV : W.heap[V]? = some (.cells #[.int .i64 1] 3 (0, 0)))
    (hN : W.heap[N]? = some (.cells #[.int .i64 (n : Int)] 3 (0, 0)))
    (hT : W.heap[T]? = some (.cells #[.bool tb] 4 (0, 0)))
    (hl : W.cell? ⟨g, q, none⟩ = some (.int .i64 (i : Int)))
    (dX : X ≠ b ∧ X ≠ N ∧ X ≠ T) (dO : O ≠ b ∧ O ≠ N ∧ O ≠ T) (dV : V ≠ b ∧ V ≠ N ∧ V ≠ T) (dN : N ≠ b) (dT : T ≠ b) (dNT : N ≠ T)
    (hq : q + n + 1 = L) (lq : q < L) (lL : L ≤ 262144) (li : i < 262144)
    {Q : Exit → Act → World → Prop} (hQ : ∀ a' W', K3 b N T W W' → W'.heap[N]? = some (.cells #[.int .i64 ((n + 1 : Nat) : Int)] 3 (0, 0)) → W'.heap[T]? = some (.cells #[.bool tb] 4 (0, 0)) → Bm W' b S → Q .normal a' W') :
    c.wpIn (Fence.wide.inRound l) m Tryd.prog Q { tmps := #[u0, u1, .pointer (some ⟨X, 0, none⟩), .pointer (some ⟨O, 0, none⟩), .pointer (some ⟨R, 0, none⟩), u5, .pointer (some ⟨V, 0, none⟩), .pointer (some ⟨N, 0, none⟩), .pointer (some ⟨T, 0, none⟩), .int .i64 (i : Int), u10, u11, u12, u13, u14, u15, u16, u17, u18, u19, u20, u21, u22, u23, u24, u25, u26, .int .i64 (i : Int), u28, u29, u30, u31, u32, u33, u34, u35, u36, u37, u38, u39, u40, u41, u42, u43, u44, u45, u46, u47, u48, u49, u50, u51, u52, u53, u54, u55, u56, u57, u58, u59, u60, u61, u62, u63, u64, u65, u66, u67, u68, u69, u70, u71, u72, u73, u74, u75, u76, u77, u78, u79, u80, u81, u82, u83, u84, u85, u86, u87, u88, u89, u90, u91, u92, u93, u94, u95, u96, u97], defers := [] } W := by
  simp only [Tryd.f40, rfOf, Option.bind, Option.or] at hc
  injection hc with hc
  subst hc
  have HQ := hid hQ
  have HB := hid hB
  clear hQ hB
  obtain ⟨L2, hL2⟩ : ∃ L2, L - 1 = L2 := ⟨_, rfl⟩
  have eL1 : (L : Int) - 1 = (L2 : Int) := by omega
  have eL2 : (L2 : Int) - (n : Int) = (q : Int) := by omega
  have L2b : L2 < 262144 := by omega
  obtain ⟨n2, hn2⟩ : ∃ n2, n + 1 = n2 := ⟨_, rfl⟩
  have en : (n : Int) + 1 = (n2 : Int) := by omega
  rw [hn2] at HQ
  have mX0 := row_cell hX 0
  have mX1 := row_cell hX 1
  have mO0 := row_cell hO 0
  have mO3 := row_cell hO 3
  have mO4 := row_cell hO 4
  have mV := row_cell hV 0
  have mN := row_cell hN 0
  simp only [List.getElem?_toArray, List.getElem?_cons_zero, List.getElem?_cons_succ] at mX0 mX1 mO0 mO3 mO4 mV mN
  have fN := frozen_of_row W N 0 _ _ hN
  obtain ⟨W3, hW3⟩ : ∃ W3, W.setCell ⟨N, 0, none⟩ (.int .i64 (n2 : Int)) = W3 := ⟨_, rfl⟩
  have r1 : W3.heap[N]? = some (.cells #[.int .i64 (n2 : Int)] 3 (0, 0)) := by rw [← hW3, Go.heap_setCell_same _ _ _ _ _ _ hN]; rfl
  have r2 : W3.heap[T]? = some (.cells #[.bool tb] 4 (0, 0)) := by rw [← hW3, heap_setCell_other _ _ _ _ (by show T ≠ N; omega)]; exact hT
  have r3 : W3.heap[V]? = some (.cells #[.int .i64 1] 3 (0, 0)) := by rw [← hW3, heap_setCell_other _ _ _ _ (by show V ≠ N; omega)]; exact hV
  have r4 : W3.heap[O]? = some (.cells #[.int .i64 10, .int .i64 x1, .int .i64 x2, .int .i64 A, .int .i64 B] 35 (0, 0)) := by rw [← hW3, heap_setCell_other _ _ _ _ (by show O ≠ N; omega)]; exact hO
  have r5 : Bm W3 b S := HB.out.same (by rw [← hW3, heap_setCell_other _ _ _ _ (by show b ≠ N; omega)])
  have FIN := hid (show K3 b N T W W3 from by rw [← hW3]; exact k3_cell W N _ (.inl rfl))
  have FR := hid (And.intro r1 (And.intro r2 r5))
  have p1 := row_cell r1 0
  have p3 := row_cell r3 0
  have p4 := row_cell r4 4
  simp only [List.getElem?_toArray, List.getElem?_cons_zero, List.getElem?_cons_succ] at p1 p3 p4
  clear hX hO hV hN hT r1 r2 r3 r4 r5 dX dO dV dN dT dNT
  gi_wp2_with fail
  refine HQ.out _ _ FIN.out FR.out.1 FR.out.2.1 FR.out.2.2
end Go.Proofs.YtcbfgodknonefaaDoor
