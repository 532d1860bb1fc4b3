/-
  RuRw
-/
import Derived.Test.YtalgndgoedlpoaaRuRu
namespace Go.Proofs.Ytalgndgoedlpoaa
open Go.RowKit Go.Deep Go.Shelf
set_option linter.unusedVariables false
set_option linter.unusedSimpArgs false
set_option maxHeartbeats 8000000
set_option maxRecDepth 100000
attribute [local go_sem ↓] Go.wp_at_zero Go.wp_at_succ
theorem i78 (a0 a1 a2 a3 a4 a5 a6 : Value) : (Try.prog.info? 78).map (·.size) = some (#[a0, a1, a2, a3, a4, a5, a6] : Array Value).size := info78
theorem allC (o : Or) (s q : Int) : (#[.int .u64 o.id, .int .u64 q, .int .u64 o.pk, .int .u32 o.mb, .int .i64 s, .int .i64 o.ty, .int .i64 o.pr] : Array Value).all (·.oneCell') = true := by simp [Value.oneCell']
/-- the told, what comes, the two results. -/
structure T4 (w W : World) (R : Nat) (tv cv : Array Value) : Prop where
 be : Below w.heap.size w W
 t : W.heap[R]? = some (.cells tv 74 (0, 0))
 c : W.heap[R + 1]? = some (.cells cv 78 (0, 0))
 z1 : W.heap[R + 1 + 1]? = some (.cells #[.int .i64 0, .int .i64 0, .slice none 0 0, .slice none 0 0, .int .u64 0, .int .u64 0, .slice none 0 0] 74 (0, 0))
 z2 : W.heap[R + 1 + 1 + 1]? = some (.cells #[.int .u64 0, .int .u64 0, .int .u64 0, .int .u32 0, .int .i64 0, .int .i64 0, .int .i64 0] 78 (0, 0))
 r : w.heap.size = R
theorem T4.on {w W U : World} {R : Nat} {tv cv : Array Value} (h : T4 w W R tv cv) (hb : Below W.heap.size W U) : T4 w U R tv cv :=
 ⟨btr h.be hb, row_on h.t hb, row_on h.c hb, row_on h.z1 hb, row_on h.z2 hb, h.r⟩
theorem T4.setT {w W : World} {R : Nat} {tv cv : Array Value} (h : T4 w W R tv cv) (tv' : Array Value) : T4 w (W.setRow R tv') R tv' cv := by
 have hk := setRow_kp W R tv'
 exact ⟨h.be.trans (hk.below h.be.size (fun j hj e => by have := h.r; omega)), setRow_heap _ _ _ _ 74 (0, 0) h.t, hk.row h.c (by omega), hk.row h.z1 (by omega), hk.row h.z2 (by omega), h.r⟩
theorem T4.setC {w W : World} {R : Nat} {tv cv : Array Value} (h : T4 w W R tv cv) (cv' : Array Value) : T4 w (W.setRow (R + 1) cv') R tv cv' := by
 have hk := setRow_kp W (R + 1) cv'
 exact ⟨h.be.trans (hk.below h.be.size (fun j hj e => by have := h.r; omega)), hk.row h.t (by omega), setRow_heap _ _ _ _ 78 (0, 0) h.c, hk.row h.z1 (by omega), hk.row h.z2 (by omega), h.r⟩
/-- while the document trades. -/
structure Tt (d0 : Db) (o : Or) (s : Int) (N : Nat) (c0 : Bs × List Ev × Int) (w W : World) (R : Nat) (d : Db) (b : Bs) (es : List Ev) (q : Int) (p : Option Addr) (n c : Nat) : Prop where
 t4 : T4 w W R #[.int .i64 d.cap, .int .i64 d.meet, .slice d.p1 d.o1.length d.c1, .slice d.p2 d.o2.length d.c2, .int .u64 d.high, .int .u64 d.seq, .slice p n c] #[.int .u64 o.id, .int .u64 q, .int .u64 o.pk, .int .u32 o.mb, .int .i64 s, .int .i64 o.ty, .int .i64 o.pr]
 dm : Dm W d
 df : Dof d b
 vb : Vb b
 pk : Pk b
 q0 : 0 ≤ q
 q1 : q < 4294967296
 mt : 0 ≤ b.meet ∧ b.meet ≤ 3
 en : es.length = n
 rv : Rv W (.slice p n c) es
 le : es.length + 2 * mes b s q ≤ 17179869180
 cm : ∃ k, mes b s q < k ∧ cms o s k (b, es, q) = cms o s N c0
 nw : Nwl w.heap.size d0 d
/-- how much is still to come, as memory tells. -/
def meD (R : Nat) (s : Int) (W : World) : Nat :=
 (match W.cell? ⟨R + 1, 1, none⟩ with | some (.int _ q) => q.toNat | _ => 0) + (match W.cell? ⟨R, if s = 1 then 3 else 2, none⟩ with | some (.slice _ n _) => n | _ => 0)
theorem meD_is {d0 : Db} {o : Or} {s : Int} {N : Nat} {c0 : Bs × List Ev × Int} {w W : World} {R : Nat} {d : Db} {b : Bs} {es : List Ev} {q : Int} {p : Option Addr} {n c : Nat} (h : Tt d0 o s N c0 w W R d b es q p n c) (hs : s = 1 ∨ s = 2) : meD R s W = mes b s q := by
 have c1 := row_cell h.t4.c 1
 have t2 := row_cell h.t4.t 2
 have t3 := row_cell h.t4.t 3
 simp only [List.getElem?_toArray, List.getElem?_cons_succ, List.getElem?_cons_zero] at c1 t2 t3
 have e1 : d.o1.length = b.l1.length := by rw [h.df.o1]; simp [osl]
 have e2 : d.o2.length = b.l2.length := by rw [h.df.o2]; simp [osl]
 unfold meD mes
 rcases hs with rfl | rfl
 ·rw [c1, if_pos rfl, t3]
  show q.toNat + d.o2.length = q.toNat + b.l2.length
  rw [e2]
 ·rw [c1, if_neg (by decide), t2]
  show q.toNat + d.o1.length = q.toNat + b.l1.length
  rw [e1]
theorem mts_list {b : Bs} {o : Or} {s : Int} (h : mts b o s = true) : ∃ f x r, b.sl (oth s) = (f, x) :: r := by
 obtain ⟨f, x, r, hl⟩ := mts_cons h
 exact ⟨f, x, r, hl⟩
/-- behind a step. -/
structure Nx (v : World) (d1 : Db) (o : Or) (s : Int) (b1 : Bs) (es1 : List Ev) (q1 : Int) (f : Nat) (x : Or) (r : LO) (U w : World) (d2 : Db) (p2 : Option Addr) (n2 c2 : Nat) (q2 : Int) : Prop where
 be : Below U.heap.size U w
 dm : Dm w d2
 df : Dof d2 (mtB b1 o s q1 f x r).1
 en : (es1 ++ (mtB b1 o s q1 f x r).2.1).length = n2
 rv : Rv w (.slice p2 n2 c2) (es1 ++ (mtB b1 o s q1 f x r).2.1)
 q2e : q2 = (mtB b1 o s q1 f x r).2.2
 nw : Nwl v.heap.size d1 d2
theorem step_b {d0 : Db} {o : Or} {s : Int} {N : Nat} {c0 : Bs × List Ev × Int} {w W : World} {R : Nat} {d1 : Db} {b1 : Bs} {es1 : List Ev} {q1 : Int} {p1 : Option Addr} {n1 c1 : Nat} (h : Tt d0 o s N c0 w W R d1 b1 es1 q1 p1 n1 c1) (hs : s = 1 ∨ s = 2) (hq : 0 < q1) {f : Nat} {x : Or} {r : LO} (hl : b1.sl (oth s) = (f, x) :: r) :
  ∀ (U : World), Below W.heap.size W U → Calls Try.prog 68 #[.agg #[.int .i64 d1.cap, .int .i64 d1.meet, .slice d1.p1 d1.o1.length d1.c1, .slice d1.p2 d1.o2.length d1.c2, .int .u64 d1.high, .int .u64 d1.seq, .slice p1 n1 c1], .agg #[.int .u64 o.id, .int .u64 q1, .int .u64 o.pk, .int .u32 o.mb, .int .i64 s, .int .i64 o.ty, .int .i64 o.pr]] U fun e w' => ∃ d2 p2 n2 c2 q2, e = .returned (.tuple #[.agg #[.int .i64 d2.cap, .int .i64 d2.meet, .slice d2.p1 d2.o1.length d2.c1, .slice d2.p2 d2.o2.length d2.c2, .int .u64 d2.high, .int .u64 d2.seq, .slice p2 n2 c2], .agg #[.int .u64 o.id, .int .u64 q2, .int .u64 o.pk, .int .u32 o.mb, .int .i64 s, .int .i64 o.ty, .int .i64 o.pr]]) ∧ Hid (Nx w d1 o s b1 es1 q1 f x r U w' d2 p2 n2 c2 q2) := by
 intro U hU
 have hos : d1.os (oth s) = x :: osl r := by rw [h.df.os, hl]; rfl
 have hmem : (f, x) ∈ b1.sl (oth s) := by rw [hl]; simp
 have hmes : 1 ≤ mes b1 s q1 := by unfold mes; rw [hl]; simp; omega
 have hle := h.le
 refine (dstep_any d1 o s q1 x (osl r) p1 n1 c1 es1 U hs (h.dm.on hU) hos (h.vb.ok (oth s) (f, x) hmem) (h.pk (oth s) (oth_side hs) (f, x) hmem) hq h.q1 (vb_ne h.vb hs hl) (by rw [h.df.meet]; exact h.mt) h.en (h.rv.on hU) (by have := h.en; omega)).mono ?_
 rw [h.df.seq, h.df.meet]
 obtain ⟨e1, e2, e3, e4, e5⟩ := stD_mtB2 (b := b1) (o := o) (s := s) (q := q1) hs hl
 rw [e1]
 rintro e w' ⟨d2, p2, n2, c2, rfl, ⟨j1, jn⟩, j2, j3, j4, j5, j6, j7, j8, j9, j10⟩
 refine ⟨d2, p2, n2, c2, _, rfl, hid ⟨j10, j1, ⟨by rw [j6, e3, h.df.cap], by rw [j7, e4], ?_, ?_, by rw [j8, e5, h.df.high], j9⟩, j2, j3, rfl, (Nwl.refl _ _).trans jn (Nat.le_trans h.t4.be.size hU.size)⟩⟩
 ·rcases hs with rfl | rfl
  ·have := j5.trans ((h.df.os 1).trans e2.symm); exact this
  ·exact j4
 ·rcases hs with rfl | rfl
  ·exact j4
  ·have := j5.trans ((h.df.os 2).trans e2.symm); exact this
theorem Nx.less {d0 : Db} {o : Or} {s : Int} {N : Nat} {c0 : Bs × List Ev × Int} {w W U w3 : World} {R : Nat} {d1 d2 : Db} {b1 : Bs} {es1 : List Ev} {q1 q2 : Int} {p1 p2 : Option Addr} {n1 c1 n2 c2 : Nat} {f : Nat} {x : Or} {r : LO} (k : Nx w d1 o s b1 es1 q1 f x r U w3 d2 p2 n2 c2 q2) (h : Tt d0 o s N c0 w W R d1 b1 es1 q1 p1 n1 c1) (hs : s = 1 ∨ s = 2) (hq : 0 < q1) (hl : b1.sl (oth s) = (f, x) :: r) :
  mes (mtB b1 o s q1 f x r).1 s q2 < mes b1 s q1 := by
 rw [k.q2e]
 exact (h.vb.met (o := o) hs hl hq).2.1
theorem Nx.next {d0 : Db} {o : Or} {s : Int} {N : Nat} {c0 : Bs × List Ev × Int} {w W U w3 : World} {R : Nat} {d1 d2 : Db} {b1 : Bs} {es1 : List Ev} {q1 q2 : Int} {p1 p2 : Option Addr} {n1 c1 n2 c2 : Nat} {f : Nat} {x : Or} {r : LO} {tv cv : Array Value} (k : Nx w d1 o s b1 es1 q1 f x r U w3 d2 p2 n2 c2 q2) (h : Tt d0 o s N c0 w W R d1 b1 es1 q1 p1 n1 c1) (hs : s = 1 ∨ s = 2) (hq : 0 < q1) (hl : b1.sl (oth s) = (f, x) :: r) (hmt : mts b1 o s = true)
  (h5 : T4 w ((w3.setRow R #[.int .i64 d2.cap, .int .i64 d2.meet, .slice d2.p1 d2.o1.length d2.c1, .slice d2.p2 d2.o2.length d2.c2, .int .u64 d2.high, .int .u64 d2.seq, .slice p2 n2 c2]).setRow (R + 1) #[.int .u64 o.id, .int .u64 q2, .int .u64 o.pk, .int .u32 o.mb, .int .i64 s, .int .i64 o.ty, .int .i64 o.pr]) R #[.int .i64 d2.cap, .int .i64 d2.meet, .slice d2.p1 d2.o1.length d2.c1, .slice d2.p2 d2.o2.length d2.c2, .int .u64 d2.high, .int .u64 d2.seq, .slice p2 n2 c2] #[.int .u64 o.id, .int .u64 q2, .int .u64 o.pk, .int .u32 o.mb, .int .i64 s, .int .i64 o.ty, .int .i64 o.pr]) (h3 : T4 w w3 R tv cv) :
  Tt d0 o s N c0 w ((w3.setRow R #[.int .i64 d2.cap, .int .i64 d2.meet, .slice d2.p1 d2.o1.length d2.c1, .slice d2.p2 d2.o2.length d2.c2, .int .u64 d2.high, .int .u64 d2.seq, .slice p2 n2 c2]).setRow (R + 1) #[.int .u64 o.id, .int .u64 q2, .int .u64 o.pk, .int .u32 o.mb, .int .i64 s, .int .i64 o.ty, .int .i64 o.pr]) R d2 (mtB b1 o s q1 f x r).1 (es1 ++ (mtB b1 o s q1 f x r).2.1) q2 p2 n2 c2 := by
 obtain ⟨v1, v2, v3, v4, v5⟩ := h.vb.met (o := o) hs hl hq
 have hc := (h3.setT #[.int .i64 d2.cap, .int .i64 d2.meet, .slice d2.p1 d2.o1.length d2.c1, .slice d2.p2 d2.o2.length d2.c2, .int .u64 d2.high, .int .u64 d2.seq, .slice p2 n2 c2]).c
 have mv : ∀ (base : Nat) (e : TypeId) (size m : Nat) (v : Value) (xs : List Value), w3.ownsRow base e size v m xs → e ≠ 74 → e ≠ 78 → ((w3.setRow R #[.int .i64 d2.cap, .int .i64 d2.meet, .slice d2.p1 d2.o1.length d2.c1, .slice d2.p2 d2.o2.length d2.c2, .int .u64 d2.high, .int .u64 d2.seq, .slice p2 n2 c2]).setRow (R + 1) #[.int .u64 o.id, .int .u64 q2, .int .u64 o.pk, .int .u32 o.mb, .int .i64 s, .int .i64 o.ty, .int .i64 o.pr]).ownsRow base e size v m xs := fun base e size m v xs hh n1 n2 => own_setRow (own_setRow hh h3.t n1) hc n2
 obtain ⟨kk, hk, ek⟩ := h.cm
 have hle := h.le
 obtain ⟨_, _, _, e4, _⟩ := stD_mtB2 (b := b1) (o := o) (s := s) (q := q1) hs hl
 have hq2 := k.q2e
 refine ⟨h5, ⟨mv _ _ _ _ _ _ k.dm.r1 (by decide) (by decide), mv _ _ _ _ _ _ k.dm.r2 (by decide) (by decide), k.dm.l1, k.dm.l2⟩, k.df, v1, h.pk.met hs hl, by omega, by have := h.q1; omega, by rw [e4]; exact h.mt, k.en, mv _ _ _ _ _ _ k.rv (by decide) (by decide), ?_, ?_, h.nw.trans k.nw (Nat.le_refl _)⟩
 ·rw [List.length_append, hq2]
  omega
 ·refine ⟨kk - 1, by rw [hq2]; omega, ?_⟩
  obtain ⟨k', rfl⟩ : ∃ k', kk = k' + 1 := ⟨kk - 1, by omega⟩
  rw [← ek, hq2]
  show cms o s (k' + 1 - 1) _ = cms o s (k' + 1) (b1, es1, q1)
  conv => rhs; unfold cms
  rw [if_pos ⟨hq, hmt⟩]
  show _ = (match b1.sl (oth s) with | [] => (b1, es1, q1) | y :: r => cms o s k' ((mtB b1 o s q1 y.1 y.2 r).1, es1 ++ (mtB b1 o s q1 y.1 y.2 r).2.1, (mtB b1 o s q1 y.1 y.2 r).2.2))
  rw [hl]
  rfl
theorem dtrades_any (b : Bs) (d : Db) (o : Or) (s q : Int) (p : Option Addr) (n c : Nat) (es : List Ev) (w : World) (hs : s = 1 ∨ s = 2) (hd : Dof d b) (h : Dm w d) (hvb : Vb b) (hpk : Pk b) (hq0 : 0 ≤ q) (hq1 : q < 4294967296) (hm : 0 ≤ b.meet ∧ b.meet ≤ 3) (he : es.length = n) (hv : Rv w (.slice p n c) es) (hle : es.length + 2 * mes b s q ≤ 17179869180) :
  Calls Try.prog 56 #[.agg #[.int .i64 d.cap, .int .i64 d.meet, .slice d.p1 d.o1.length d.c1, .slice d.p2 d.o2.length d.c2, .int .u64 d.high, .int .u64 d.seq, .slice p n c], .agg #[.int .u64 o.id, .int .u64 q, .int .u64 o.pk, .int .u32 o.mb, .int .i64 s, .int .i64 o.ty, .int .i64 o.pr]] w fun e w' => ∃ d2 p2 n2 c2, e = .returned (.tuple #[.agg #[.int .i64 d2.cap, .int .i64 d2.meet, .slice d2.p1 d2.o1.length d2.c1, .slice d2.p2 d2.o2.length d2.c2, .int .u64 d2.high, .int .u64 d2.seq, .slice p2 n2 c2], .agg #[.int .u64 o.id, .int .u64 (cms o s (mes b s q + 1) (b, es, q)).2.2, .int .u64 o.pk, .int .u32 o.mb, .int .i64 s, .int .i64 o.ty, .int .i64 o.pr]]) ∧ Dof d2 (cms o s (mes b s q + 1) (b, es, q)).1 ∧ (Dm w' d2 ∧ Nwl w.heap.size d d2) ∧ (cms o s (mes b s q + 1) (b, es, q)).2.1.length = n2 ∧ Rv w' (.slice p2 n2 c2) (cms o s (mes b s q + 1) (b, es, q)).2.1 ∧ Pk (cms o s (mes b s q + 1) (b, es, q)).1 ∧ n2 ≤ 17179869180 ∧ Below w.heap.size w w' := by
 obtain ⟨N, hN⟩ : ∃ N, mes b s q + 1 = N := ⟨_, rfl⟩
 obtain ⟨c0, hc0⟩ : ∃ c0, (b, es, q) = c0 := ⟨_, rfl⟩
 have hcm : ∃ k, mes b s q < k ∧ cms o s k (b, es, q) = cms o s N c0 := ⟨N, by omega, by rw [hc0]⟩
 rw [hN, hc0]
 obtain ⟨R, hR⟩ : ∃ R, w.heap.size = R := ⟨_, rfl⟩
 obtain ⟨U0, hU0⟩ : ∃ U, w.alloc (.cells #[.int .i64 d.cap, .int .i64 d.meet, .slice d.p1 d.o1.length d.c1, .slice d.p2 d.o2.length d.c2, .int .u64 d.high, .int .u64 d.seq, .slice p n c] 74) = U := ⟨_, rfl⟩
 obtain ⟨U1, hU1⟩ : ∃ U, U0.alloc (.cells #[.int .u64 o.id, .int .u64 q, .int .u64 o.pk, .int .u32 o.mb, .int .i64 s, .int .i64 o.ty, .int .i64 o.pr] 78) = U := ⟨_, rfl⟩
 obtain ⟨U2, hU2⟩ : ∃ U, U1.alloc (.cells #[.int .i64 0, .int .i64 0, .slice none 0 0, .slice none 0 0, .int .u64 0, .int .u64 0, .slice none 0 0] 74) = U := ⟨_, rfl⟩
 obtain ⟨W, hW⟩ : ∃ U, U2.alloc (.cells #[.int .u64 0, .int .u64 0, .int .u64 0, .int .u32 0, .int .i64 0, .int .i64 0, .int .i64 0] 78) = U := ⟨_, rfl⟩
 have s0 : U0.heap.size = R + 1 := by rw [← hU0, ← hR]; simp
 have s1 : U1.heap.size = R + 1 + 1 := by rw [← hU1]; simp [s0]
 have s2 : U2.heap.size = R + 1 + 1 + 1 := by rw [← hU2]; simp [s1]
 have b0 : Below w.heap.size w U0 := by rw [← hU0]; exact ball _ _
 have b1 : Below U0.heap.size U0 U1 := by rw [← hU1]; exact ball _ _
 have b2 : Below U1.heap.size U1 U2 := by rw [← hU2]; exact ball _ _
 have b3 : Below U2.heap.size U2 W := by rw [← hW]; exact ball _ _
 have hbW := btr (btr (btr b0 b1) b2) b3
 have HST := hid (show Tt d o s N c0 w W R d b es q p n c from ⟨⟨hbW, row_on (row_on (row_on (by rw [← hU0, ← hR]; exact World.alloc_heap_new _ _) b1) b2) b3, row_on (row_on (by rw [← hU1, ← s0]; exact World.alloc_heap_new _ _) b2) b3, row_on (by rw [← hU2, ← s1]; exact World.alloc_heap_new _ _) b3, by rw [← hW, ← s2]; exact World.alloc_heap_new _ _, hR⟩, h.on hbW, hd, hvb, hpk, hq0, hq1, hm, he, hv.on hbW, hle, hcm, Nwl.refl _ _⟩)
 have HU0 := hid hU0
 have HU1 := hid hU1
 have HU2 := hid hU2
 have HW := hid hW
 have HRR := hid hR
 have HS := hid hs
 clear hR hU0 hU1 hU2 hW s0 s1 s2 b0 b1 b2 b3 hbW h hd hvb hpk hq0 hq1 hm he hv hle hcm hN hc0 hs
 go_enter Try.func56, Try.ntmps56
 go_upto_region 1 with fail
 rw [HU0.out, HU1.out, HU2.out, HW.out, HRR.out]
 go_loopw [] (fun wr => ∃ (d1 : Db) (b1 : Bs) (es1 : List Ev) (q1 : Int) (p1 : Option Addr) (n1 c1 : Nat), Hid (Tt d o s N c0 w wr R d1 b1 es1 q1 p1 n1 c1)) (fun wr => meD R s wr)
 case atStart => exact ⟨d, b, es, q, p, n, c, HST⟩
 case round =>
  obtain ⟨d1, b1, es1, q1, p1, n1, c1, HT1⟩ := hrel
  obtain ⟨a0, a1, a2, a3, a4, a5, a6⟩ := row7 HT1.out.t4.t
  obtain ⟨b0, b1', b2, b3, b4, b5, b6⟩ := row7 HT1.out.t4.c
  by_cases hq : 0 < q1
  ·have e1 : decide (0 < q1) = true := by simpa using hq
   have HQ := hid hq
   clear hq
   have CM := hid (dmeets_any d1 o s q1 HS.out wr HT1.out.dm)
   rw [HT1.out.df.mts] at CM
   unfold Db.row cmg at CM
   obtain ⟨mv, hmv⟩ : ∃ v, mts b1 o s = v := ⟨_, rfl⟩
   have HMV := hid hmv
   rw [hmv] at CM
   clear hmv
   cases mv with
   | false =>
    have HX := hid (show ¬ (0 < (b1, es1, q1).2.2 ∧ mts (b1, es1, q1).1 o s = true) from fun hh => by have h2 := hh.2; rw [show mts (b1, es1, q1).1 o s = mts b1 o s from rfl, HMV.out] at h2; cases h2)
    go_upto_region 3 with (go_at_call 54; with_reducible refine (CM.out).mono ?_; rintro e w2 ⟨rfl, hb2⟩; have HB2 := hid hb2; have HS2 := hid (HT1.out.t4.on hb2); obtain ⟨a0, a1, a2, a3, a4, a5, a6⟩ := row7 HS2.out.t; obtain ⟨b0, b1', b2, b3, b4, b5, b6⟩ := row7 HS2.out.c; clear hb2)
    clear a0 a1 a2 a3 a4 a5 a6 b0 b1' b2 b3 b4 b5 b6
    obtain ⟨V, hV⟩ : ∃ X, w2.drew = X := ⟨_, rfl⟩
    have HSV := hid (show T4 w V R _ _ from by rw [← hV]; exact HS2.out.on (bdrew1 _))
    have HKV := hid (show Below w2.heap.size w2 V from by rw [← hV]; exact bdrew1 _)
    refine wp_region_held_drew (S := (fun U => (U.cell? ⟨R, 0, none⟩ = some (.int .i64 d1.cap) ∧ U.cell? ⟨R, 1, none⟩ = some (.int .i64 d1.meet) ∧ U.cell? ⟨R, 2, none⟩ = some (.slice d1.p1 d1.o1.length d1.c1) ∧ U.cell? ⟨R, 3, none⟩ = some (.slice d1.p2 d1.o2.length d1.c2) ∧ U.cell? ⟨R, 4, none⟩ = some (.int .u64 d1.high) ∧ U.cell? ⟨R, 5, none⟩ = some (.int .u64 d1.seq) ∧ U.cell? ⟨R, 6, none⟩ = some (.slice p1 n1 c1)) ∧ (U.cell? ⟨R + 1, 0, none⟩ = some (.int .u64 o.id) ∧ U.cell? ⟨R + 1, 1, none⟩ = some (.int .u64 q1) ∧ U.cell? ⟨R + 1, 2, none⟩ = some (.int .u64 o.pk) ∧ U.cell? ⟨R + 1, 3, none⟩ = some (.int .u32 o.mb) ∧ U.cell? ⟨R + 1, 4, none⟩ = some (.int .i64 s) ∧ U.cell? ⟨R + 1, 5, none⟩ = some (.int .i64 o.ty) ∧ U.cell? ⟨R + 1, 6, none⟩ = some (.int .i64 o.pr)))) (by kernel_rfl) ?_ (fun hHeld => ?_)
    ·(try dsimp only); ((rw [hV]; exact ⟨row7 HSV.out.t, row7 HSV.out.c⟩))
    rw [hV] at hHeld ⊢
    clear hV
    refine' wpAnyH_take (i := 0) (oi := _) (v := _) rfl (by kernel_rfl) (by kernel_rfl) (by kernel_rfl) (fun _ _ _ h => h) (Or.inl ⟨by kernel_rfl, ?_⟩) (by assumption) ?_
    rotate_left
    ·(intro w hSw; (try dsimp only at hSw); go_simp; try (with_reducible rfl))
    try simp only [List.getElem_toArray, List.getElem_cons_succ, List.getElem_cons_zero, Act.put, List.setIfInBounds_toArray, List.set_cons_zero, List.set_cons_succ]
    refine' wpAnyH_take (i := 1) (oi := _) (v := _) rfl (by kernel_rfl) (by kernel_rfl) (by kernel_rfl) (fun _ _ _ h => h) (Or.inl ⟨by kernel_rfl, ?_⟩) (by assumption) ?_
    rotate_left
    ·(intro w hSw; (try dsimp only at hSw); go_simp; try (with_reducible rfl))
    try simp only [List.getElem_toArray, List.getElem_cons_succ, List.getElem_cons_zero, Act.put, List.setIfInBounds_toArray, List.set_cons_zero, List.set_cons_succ]
    have AIE1 := hid (show (Try.prog.info? 74).map (·.size) = some (#[.int .i64 d1.cap, .int .i64 d1.meet, .slice d1.p1 d1.o1.length d1.c1, .slice d1.p2 d1.o2.length d1.c2, .int .u64 d1.high, .int .u64 d1.seq, .slice p1 n1 c1] : Array Value).size from info74)
    have ASE1 := hid (show (#[.int .i64 0, .int .i64 0, .slice none 0 0, .slice none 0 0, .int .u64 0, .int .u64 0, .slice none 0 0] : Array Value).size = (#[.int .i64 d1.cap, .int .i64 d1.meet, .slice d1.p1 d1.o1.length d1.c1, .slice d1.p2 d1.o2.length d1.c2, .int .u64 d1.high, .int .u64 d1.seq, .slice p1 n1 c1] : Array Value).size from rfl)
    have AAE1 := hid (show (#[.int .i64 d1.cap, .int .i64 d1.meet, .slice d1.p1 d1.o1.length d1.c1, .slice d1.p2 d1.o2.length d1.c2, .int .u64 d1.high, .int .u64 d1.seq, .slice p1 n1 c1] : Array Value).all (·.oneCell') = true from by simp [Value.oneCell'])
    have AIE2 := hid (show (Try.prog.info? 78).map (·.size) = some (#[.int .u64 o.id, .int .u64 q1, .int .u64 o.pk, .int .u32 o.mb, .int .i64 s, .int .i64 o.ty, .int .i64 o.pr] : Array Value).size from info78)
    have ASE2 := hid (show (#[.int .u64 0, .int .u64 0, .int .u64 0, .int .u32 0, .int .i64 0, .int .i64 0, .int .i64 0] : Array Value).size = (#[.int .u64 o.id, .int .u64 q1, .int .u64 o.pk, .int .u32 o.mb, .int .i64 s, .int .i64 o.ty, .int .i64 o.pr] : Array Value).size from rfl)
    have AAE2 := hid (show (#[.int .u64 o.id, .int .u64 q1, .int .u64 o.pk, .int .u32 o.mb, .int .i64 s, .int .i64 o.ty, .int .i64 o.pr] : Array Value).all (·.oneCell') = true from by simp [Value.oneCell'])
    refine wpAnyH_ready (rs := [2]) (by kernel_rfl) (by simp) ?_
    refine AllReadyH.cons (o := _) rfl (fun K hK => ?_) AllReadyH.nil
    refine step_store_row (by rfl) 74 (.tmp 4) (.tmp 21) (by rfl) (R + 1 + 1) #[.int .i64 d1.cap, .int .i64 d1.meet, .slice d1.p1 d1.o1.length d1.c1, .slice d1.p2 d1.o2.length d1.c2, .int .u64 d1.high, .int .u64 d1.seq, .slice p1 n1 c1] (by rfl) (by rfl) 74 _ HSV.out.z1 AIE1.out ASE1.out AAE1.out ?_
    have k1 := setRow_kp V (R + 1 + 1) #[.int .i64 d1.cap, .int .i64 d1.meet, .slice d1.p1 d1.o1.length d1.c1, .slice d1.p2 d1.o2.length d1.c2, .int .u64 d1.high, .int .u64 d1.seq, .slice p1 n1 c1]
    have HZ1 := hid (setRow_heap V (R + 1 + 1) _ #[.int .i64 d1.cap, .int .i64 d1.meet, .slice d1.p1 d1.o1.length d1.c1, .slice d1.p2 d1.o2.length d1.c2, .int .u64 d1.high, .int .u64 d1.seq, .slice p1 n1 c1] 74 (0, 0) HSV.out.z1)
    have HZ2 := hid (k1.row HSV.out.z2 (by omega))
    have HZT := hid (k1.row HSV.out.t (by omega))
    have HZC := hid (k1.row HSV.out.c (by omega))
    have HZB := hid (HSV.out.be.trans (k1.below HSV.out.be.size (fun j hj e => by have := HSV.out.r; omega)))
    have HK1 := hid k1
    refine hK.out _ _ ?_ (fun hHeld => ?_)
    ·(try dsimp only); exact ⟨row7 HZT.out, row7 HZC.out⟩
    clear hK K k1
    try simp only [List.getElem_toArray, List.getElem_cons_succ, List.getElem_cons_zero, Act.put, List.setIfInBounds_toArray, List.set_cons_zero, List.set_cons_succ]
    obtain ⟨X1, hX1⟩ : ∃ X, V.setRow (R + 1 + 1) #[.int .i64 d1.cap, .int .i64 d1.meet, .slice d1.p1 d1.o1.length d1.c1, .slice d1.p2 d1.o2.length d1.c2, .int .u64 d1.high, .int .u64 d1.seq, .slice p1 n1 c1] = X := ⟨_, rfl⟩
    rw [hX1] at HZ1 HZ2 HZT HZC HZB HK1 hHeld ⊢
    clear hX1
    refine wpAnyH_ready (rs := [3]) (by kernel_rfl) (by simp) ?_
    refine AllReadyH.cons (o := _) rfl (fun K hK => ?_) AllReadyH.nil
    refine step_store_row (by rfl) 78 (.tmp 5) (.tmp 22) (by rfl) (R + 1 + 1 + 1) #[.int .u64 o.id, .int .u64 q1, .int .u64 o.pk, .int .u32 o.mb, .int .i64 s, .int .i64 o.ty, .int .i64 o.pr] (by rfl) (by rfl) 78 _ HZ2.out AIE2.out ASE2.out AAE2.out ?_
    have k2 := setRow_kp X1 (R + 1 + 1 + 1) #[.int .u64 o.id, .int .u64 q1, .int .u64 o.pk, .int .u32 o.mb, .int .i64 s, .int .i64 o.ty, .int .i64 o.pr]
    have HY1 := hid (k2.row HZ1.out (by omega))
    have HY2 := hid (setRow_heap X1 (R + 1 + 1 + 1) _ #[.int .u64 o.id, .int .u64 q1, .int .u64 o.pk, .int .u32 o.mb, .int .i64 s, .int .i64 o.ty, .int .i64 o.pr] 78 (0, 0) HZ2.out)
    have HYB := hid (HZB.out.trans (k2.below HZB.out.size (fun j hj e => by have := HSV.out.r; omega)))
    have HK2 := hid k2
    refine hK.out _ _ ?_ (fun hHeld => ?_)
    ·(try dsimp only); exact ⟨row7 (k2.row HZT.out (by omega)), row7 (k2.row HZC.out (by omega))⟩
    clear hK K k2
    try simp only [List.getElem_toArray, List.getElem_cons_succ, List.getElem_cons_zero, Act.put, List.setIfInBounds_toArray, List.set_cons_zero, List.set_cons_succ]
    refine wpAnyH_done (by kernel_rfl) ?_ _
    obtain ⟨X2, hX2⟩ : ∃ X, X1.setRow (R + 1 + 1 + 1) #[.int .u64 o.id, .int .u64 q1, .int .u64 o.pk, .int .u32 o.mb, .int .i64 s, .int .i64 o.ty, .int .i64 o.pr] = X := ⟨_, rfl⟩
    rw [hX2] at HY1 HY2 HYB HK2 ⊢
    clear hX2 hHeld
    go_wp2
    refine bodyPost_ret (res_cc Try.results56 _ _ (R + 1 + 1) (R + 1 + 1 + 1) 74 78 #[.int .i64 d1.cap, .int .i64 d1.meet, .slice d1.p1 d1.o1.length d1.c1, .slice d1.p2 d1.o2.length d1.c2, .int .u64 d1.high, .int .u64 d1.seq, .slice p1 n1 c1] #[.int .u64 o.id, .int .u64 q1, .int .u64 o.pk, .int .u32 o.mb, .int .i64 s, .int .i64 o.ty, .int .i64 o.pr] (0, 0) (0, 0) _ _ (by rfl) (by rfl) HY1.out HY2.out Try.underlying74 rfl info74 Try.underlying78 rfl info78) rfl ?_
    have HKE := hid (show ∀ (base : Nat) (e : TypeId) (size m : Nat) (v : Value) (xs : List Value), w2.ownsRow base e size v m xs → e ≠ 74 → e ≠ 78 → X2.ownsRow base e size v m xs from fun base e size m v xs hh n1 n2 => by
  have h1 := own_on hh HKV.out
  have h2 := own_same (w' := X1) h1 (fun j hj => by obtain ⟨cc, hc⟩ := own_ty h1 hj; exact HK1.out.obj j (row_lt hc) (row_ne hc HSV.out.z1 n1))
  exact own_same h2 (fun j hj => by obtain ⟨cc, hc⟩ := own_ty h2 hj; exact HK2.out.obj j (row_lt hc) (row_ne hc HZ2.out n2)))
    obtain ⟨k, hk, ek⟩ := HT1.out.cm
    have hC : cms o s N c0 = (b1, es1, q1) := by rw [← ek]; exact cms_end (HX.out)
    rw [hC]
    exact ⟨d1, p1, n1, c1, rfl, HT1.out.df, ⟨⟨HKE.out _ _ _ _ _ _ (HT1.out.dm.on HB2.out).r1 (by decide) (by decide), HKE.out _ _ _ _ _ _ (HT1.out.dm.on HB2.out).r2 (by decide) (by decide), HT1.out.dm.l1, HT1.out.dm.l2⟩, HT1.out.nw⟩, HT1.out.en, HKE.out _ _ _ _ _ _ (HT1.out.rv.on HB2.out) (by decide) (by decide), HT1.out.pk, (by have h1 := HT1.out.le; have h2 := HT1.out.en; omega), HYB.out⟩
   | true =>
    obtain ⟨f, x, r, hl⟩ := mts_list HMV.out
    have HL := hid hl
    clear hl
    have CST := hid (step_b HT1.out HS.out HQ.out HL.out)
    go_wp2_with (first | (go_at_call 54; with_reducible refine (CM.out).mono ?_; rintro e w2 ⟨rfl, hb2⟩; have HB2 := hid hb2; have HS2 := hid (HT1.out.t4.on hb2); obtain ⟨a0, a1, a2, a3, a4, a5, a6⟩ := row7 HS2.out.t; obtain ⟨b0, b1', b2, b3, b4, b5, b6⟩ := row7 HS2.out.c; clear hb2) | (go_at_call 68; with_reducible refine (CST.out _ HB2.out).mono ?_; rintro e w3 ⟨d2, p2, n2, c2, q2, rfl, HN2⟩; have HS3 := hid (HS2.out.on HN2.out.be); have AI1 := hid (show (Try.prog.info? 74).map (·.size) = some (#[.int .i64 d2.cap, .int .i64 d2.meet, .slice d2.p1 d2.o1.length d2.c1, .slice d2.p2 d2.o2.length d2.c2, .int .u64 d2.high, .int .u64 d2.seq, .slice p2 n2 c2] : Array Value).size from i74 _ _ _ _ _ _ _); have AS1 := hid (show (#[.int .i64 d1.cap, .int .i64 d1.meet, .slice d1.p1 d1.o1.length d1.c1, .slice d1.p2 d1.o2.length d1.c2, .int .u64 d1.high, .int .u64 d1.seq, .slice p1 n1 c1] : Array Value).size = (#[.int .i64 d2.cap, .int .i64 d2.meet, .slice d2.p1 d2.o1.length d2.c1, .slice d2.p2 d2.o2.length d2.c2, .int .u64 d2.high, .int .u64 d2.seq, .slice p2 n2 c2] : Array Value).size from s7 _ _ _ _ _ _ _ _ _ _ _ _ _ _); have AA1 := hid (show (#[.int .i64 d2.cap, .int .i64 d2.meet, .slice d2.p1 d2.o1.length d2.c1, .slice d2.p2 d2.o2.length d2.c2, .int .u64 d2.high, .int .u64 d2.seq, .slice p2 n2 c2] : Array Value).all (·.oneCell') = true from allT _ _ _ _); have AI2 := hid (show (Try.prog.info? 78).map (·.size) = some (#[.int .u64 o.id, .int .u64 q2, .int .u64 o.pk, .int .u32 o.mb, .int .i64 s, .int .i64 o.ty, .int .i64 o.pr] : Array Value).size from i78 _ _ _ _ _ _ _); have AS2 := hid (show (#[.int .u64 o.id, .int .u64 q1, .int .u64 o.pk, .int .u32 o.mb, .int .i64 s, .int .i64 o.ty, .int .i64 o.pr] : Array Value).size = (#[.int .u64 o.id, .int .u64 q2, .int .u64 o.pk, .int .u32 o.mb, .int .i64 s, .int .i64 o.ty, .int .i64 o.pr] : Array Value).size from s7 _ _ _ _ _ _ _ _ _ _ _ _ _ _); have AA2 := hid (show (#[.int .u64 o.id, .int .u64 q2, .int .u64 o.pk, .int .u32 o.mb, .int .i64 s, .int .i64 o.ty, .int .i64 o.pr] : Array Value).all (·.oneCell') = true from allC _ _ _)) | (refine wpList_store_row (by rfl) 74 (.tmp 2) (.tmp 19) (by rfl) (R) #[.int .i64 d2.cap, .int .i64 d2.meet, .slice d2.p1 d2.o1.length d2.c1, .slice d2.p2 d2.o2.length d2.c2, .int .u64 d2.high, .int .u64 d2.seq, .slice p2 n2 c2] (by rfl) (by rfl) 74 _ HS3.out.t AI1.out AS1.out AA1.out ?_; have HS4 := hid (HS3.out.setT #[.int .i64 d2.cap, .int .i64 d2.meet, .slice d2.p1 d2.o1.length d2.c1, .slice d2.p2 d2.o2.length d2.c2, .int .u64 d2.high, .int .u64 d2.seq, .slice p2 n2 c2])) | (refine wpList_store_row (by rfl) 78 (.tmp 3) (.tmp 20) (by rfl) (R + 1) #[.int .u64 o.id, .int .u64 q2, .int .u64 o.pk, .int .u32 o.mb, .int .i64 s, .int .i64 o.ty, .int .i64 o.pr] (by rfl) (by rfl) 78 _ HS4.out.c AI2.out AS2.out AA2.out ?_; have HS5 := hid (HS4.out.setC #[.int .u64 o.id, .int .u64 q2, .int .u64 o.pk, .int .u32 o.mb, .int .i64 s, .int .i64 o.ty, .int .i64 o.pr])))
    refine ⟨⟨_, _, _, _, _, _, _, _, _, _, _, _, _, _, _, ⟨d2, _, _, q2, p2, n2, c2, hid (HN2.out.next HT1.out HS.out HQ.out HL.out HMV.out HS5.out HS3.out)⟩, rfl⟩, ?_⟩
    rw [meD_is HT1.out HS.out, meD_is (HN2.out.next HT1.out HS.out HQ.out HL.out HMV.out HS5.out HS3.out) HS.out]
    exact (HN2.out.less HT1.out HS.out HQ.out HL.out)
  ·have e1 : decide (0 < q1) = false := by simpa using hq
   have HX := hid (show ¬ (0 < (b1, es1, q1).2.2 ∧ mts (b1, es1, q1).1 o s = true) from fun hh => hq hh.1)
   clear hq
   go_upto_region 3 with fail
   clear a0 a1 a2 a3 a4 a5 a6 b0 b1' b2 b3 b4 b5 b6
   have HS2 := hid HT1.out.t4
   obtain ⟨V, hV⟩ : ∃ X, wr.drew = X := ⟨_, rfl⟩
   have HSV := hid (show T4 w V R _ _ from by rw [← hV]; exact HS2.out.on (bdrew1 _))
   have HKV := hid (show Below wr.heap.size wr V from by rw [← hV]; exact bdrew1 _)
   refine wp_region_held_drew (S := (fun U => (U.cell? ⟨R, 0, none⟩ = some (.int .i64 d1.cap) ∧ U.cell? ⟨R, 1, none⟩ = some (.int .i64 d1.meet) ∧ U.cell? ⟨R, 2, none⟩ = some (.slice d1.p1 d1.o1.length d1.c1) ∧ U.cell? ⟨R, 3, none⟩ = some (.slice d1.p2 d1.o2.length d1.c2) ∧ U.cell? ⟨R, 4, none⟩ = some (.int .u64 d1.high) ∧ U.cell? ⟨R, 5, none⟩ = some (.int .u64 d1.seq) ∧ U.cell? ⟨R, 6, none⟩ = some (.slice p1 n1 c1)) ∧ (U.cell? ⟨R + 1, 0, none⟩ = some (.int .u64 o.id) ∧ U.cell? ⟨R + 1, 1, none⟩ = some (.int .u64 q1) ∧ U.cell? ⟨R + 1, 2, none⟩ = some (.int .u64 o.pk) ∧ U.cell? ⟨R + 1, 3, none⟩ = some (.int .u32 o.mb) ∧ U.cell? ⟨R + 1, 4, none⟩ = some (.int .i64 s) ∧ U.cell? ⟨R + 1, 5, none⟩ = some (.int .i64 o.ty) ∧ U.cell? ⟨R + 1, 6, none⟩ = some (.int .i64 o.pr)))) (by kernel_rfl) ?_ (fun hHeld => ?_)
   ·(try dsimp only); ((rw [hV]; exact ⟨row7 HSV.out.t, row7 HSV.out.c⟩))
   rw [hV] at hHeld ⊢
   clear hV
   refine' wpAnyH_take (i := 0) (oi := _) (v := _) rfl (by kernel_rfl) (by kernel_rfl) (by kernel_rfl) (fun _ _ _ h => h) (Or.inl ⟨by kernel_rfl, ?_⟩) (by assumption) ?_
   rotate_left
   ·(intro w hSw; (try dsimp only at hSw); go_simp; try (with_reducible rfl))
   try simp only [List.getElem_toArray, List.getElem_cons_succ, List.getElem_cons_zero, Act.put, List.setIfInBounds_toArray, List.set_cons_zero, List.set_cons_succ]
   refine' wpAnyH_take (i := 1) (oi := _) (v := _) rfl (by kernel_rfl) (by kernel_rfl) (by kernel_rfl) (fun _ _ _ h => h) (Or.inl ⟨by kernel_rfl, ?_⟩) (by assumption) ?_
   rotate_left
   ·(intro w hSw; (try dsimp only at hSw); go_simp; try (with_reducible rfl))
   try simp only [List.getElem_toArray, List.getElem_cons_succ, List.getElem_cons_zero, Act.put, List.setIfInBounds_toArray, List.set_cons_zero, List.set_cons_succ]
   have AIE1 := hid (show (Try.prog.info? 74).map (·.size) = some (#[.int .i64 d1.cap, .int .i64 d1.meet, .slice d1.p1 d1.o1.length d1.c1, .slice d1.p2 d1.o2.length d1.c2, .int .u64 d1.high, .int .u64 d1.seq, .slice p1 n1 c1] : Array Value).size from info74)
   have ASE1 := hid (show (#[.int .i64 0, .int .i64 0, .slice none 0 0, .slice none 0 0, .int .u64 0, .int .u64 0, .slice none 0 0] : Array Value).size = (#[.int .i64 d1.cap, .int .i64 d1.meet, .slice d1.p1 d1.o1.length d1.c1, .slice d1.p2 d1.o2.length d1.c2, .int .u64 d1.high, .int .u64 d1.seq, .slice p1 n1 c1] : Array Value).size from rfl)
   have AAE1 := hid (show (#[.int .i64 d1.cap, .int .i64 d1.meet, .slice d1.p1 d1.o1.length d1.c1, .slice d1.p2 d1.o2.length d1.c2, .int .u64 d1.high, .int .u64 d1.seq, .slice p1 n1 c1] : Array Value).all (·.oneCell') = true from by simp [Value.oneCell'])
   have AIE2 := hid (show (Try.prog.info? 78).map (·.size) = some (#[.int .u64 o.id, .int .u64 q1, .int .u64 o.pk, .int .u32 o.mb, .int .i64 s, .int .i64 o.ty, .int .i64 o.pr] : Array Value).size from info78)
   have ASE2 := hid (show (#[.int .u64 0, .int .u64 0, .int .u64 0, .int .u32 0, .int .i64 0, .int .i64 0, .int .i64 0] : Array Value).size = (#[.int .u64 o.id, .int .u64 q1, .int .u64 o.pk, .int .u32 o.mb, .int .i64 s, .int .i64 o.ty, .int .i64 o.pr] : Array Value).size from rfl)
   have AAE2 := hid (show (#[.int .u64 o.id, .int .u64 q1, .int .u64 o.pk, .int .u32 o.mb, .int .i64 s, .int .i64 o.ty, .int .i64 o.pr] : Array Value).all (·.oneCell') = true from by simp [Value.oneCell'])
   refine wpAnyH_ready (rs := [2]) (by kernel_rfl) (by simp) ?_
   refine AllReadyH.cons (o := _) rfl (fun K hK => ?_) AllReadyH.nil
   refine step_store_row (by rfl) 74 (.tmp 4) (.tmp 21) (by rfl) (R + 1 + 1) #[.int .i64 d1.cap, .int .i64 d1.meet, .slice d1.p1 d1.o1.length d1.c1, .slice d1.p2 d1.o2.length d1.c2, .int .u64 d1.high, .int .u64 d1.seq, .slice p1 n1 c1] (by rfl) (by rfl) 74 _ HSV.out.z1 AIE1.out ASE1.out AAE1.out ?_
   have k1 := setRow_kp V (R + 1 + 1) #[.int .i64 d1.cap, .int .i64 d1.meet, .slice d1.p1 d1.o1.length d1.c1, .slice d1.p2 d1.o2.length d1.c2, .int .u64 d1.high, .int .u64 d1.seq, .slice p1 n1 c1]
   have HZ1 := hid (setRow_heap V (R + 1 + 1) _ #[.int .i64 d1.cap, .int .i64 d1.meet, .slice d1.p1 d1.o1.length d1.c1, .slice d1.p2 d1.o2.length d1.c2, .int .u64 d1.high, .int .u64 d1.seq, .slice p1 n1 c1] 74 (0, 0) HSV.out.z1)
   have HZ2 := hid (k1.row HSV.out.z2 (by omega))
   have HZT := hid (k1.row HSV.out.t (by omega))
   have HZC := hid (k1.row HSV.out.c (by omega))
   have HZB := hid (HSV.out.be.trans (k1.below HSV.out.be.size (fun j hj e => by have := HSV.out.r; omega)))
   have HK1 := hid k1
   refine hK.out _ _ ?_ (fun hHeld => ?_)
   ·(try dsimp only); exact ⟨row7 HZT.out, row7 HZC.out⟩
   clear hK K k1
   try simp only [List.getElem_toArray, List.getElem_cons_succ, List.getElem_cons_zero, Act.put, List.setIfInBounds_toArray, List.set_cons_zero, List.set_cons_succ]
   obtain ⟨X1, hX1⟩ : ∃ X, V.setRow (R + 1 + 1) #[.int .i64 d1.cap, .int .i64 d1.meet, .slice d1.p1 d1.o1.length d1.c1, .slice d1.p2 d1.o2.length d1.c2, .int .u64 d1.high, .int .u64 d1.seq, .slice p1 n1 c1] = X := ⟨_, rfl⟩
   rw [hX1] at HZ1 HZ2 HZT HZC HZB HK1 hHeld ⊢
   clear hX1
   refine wpAnyH_ready (rs := [3]) (by kernel_rfl) (by simp) ?_
   refine AllReadyH.cons (o := _) rfl (fun K hK => ?_) AllReadyH.nil
   refine step_store_row (by rfl) 78 (.tmp 5) (.tmp 22) (by rfl) (R + 1 + 1 + 1) #[.int .u64 o.id, .int .u64 q1, .int .u64 o.pk, .int .u32 o.mb, .int .i64 s, .int .i64 o.ty, .int .i64 o.pr] (by rfl) (by rfl) 78 _ HZ2.out AIE2.out ASE2.out AAE2.out ?_
   have k2 := setRow_kp X1 (R + 1 + 1 + 1) #[.int .u64 o.id, .int .u64 q1, .int .u64 o.pk, .int .u32 o.mb, .int .i64 s, .int .i64 o.ty, .int .i64 o.pr]
   have HY1 := hid (k2.row HZ1.out (by omega))
   have HY2 := hid (setRow_heap X1 (R + 1 + 1 + 1) _ #[.int .u64 o.id, .int .u64 q1, .int .u64 o.pk, .int .u32 o.mb, .int .i64 s, .int .i64 o.ty, .int .i64 o.pr] 78 (0, 0) HZ2.out)
   have HYB := hid (HZB.out.trans (k2.below HZB.out.size (fun j hj e => by have := HSV.out.r; omega)))
   have HK2 := hid k2
   refine hK.out _ _ ?_ (fun hHeld => ?_)
   ·(try dsimp only); exact ⟨row7 (k2.row HZT.out (by omega)), row7 (k2.row HZC.out (by omega))⟩
   clear hK K k2
   try simp only [List.getElem_toArray, List.getElem_cons_succ, List.getElem_cons_zero, Act.put, List.setIfInBounds_toArray, List.set_cons_zero, List.set_cons_succ]
   refine wpAnyH_done (by kernel_rfl) ?_ _
   obtain ⟨X2, hX2⟩ : ∃ X, X1.setRow (R + 1 + 1 + 1) #[.int .u64 o.id, .int .u64 q1, .int .u64 o.pk, .int .u32 o.mb, .int .i64 s, .int .i64 o.ty, .int .i64 o.pr] = X := ⟨_, rfl⟩
   rw [hX2] at HY1 HY2 HYB HK2 ⊢
   clear hX2 hHeld
   go_wp2
   refine bodyPost_ret (res_cc Try.results56 _ _ (R + 1 + 1) (R + 1 + 1 + 1) 74 78 #[.int .i64 d1.cap, .int .i64 d1.meet, .slice d1.p1 d1.o1.length d1.c1, .slice d1.p2 d1.o2.length d1.c2, .int .u64 d1.high, .int .u64 d1.seq, .slice p1 n1 c1] #[.int .u64 o.id, .int .u64 q1, .int .u64 o.pk, .int .u32 o.mb, .int .i64 s, .int .i64 o.ty, .int .i64 o.pr] (0, 0) (0, 0) _ _ (by rfl) (by rfl) HY1.out HY2.out Try.underlying74 rfl info74 Try.underlying78 rfl info78) rfl ?_
   have HKE := hid (show ∀ (base : Nat) (e : TypeId) (size m : Nat) (v : Value) (xs : List Value), wr.ownsRow base e size v m xs → e ≠ 74 → e ≠ 78 → X2.ownsRow base e size v m xs from fun base e size m v xs hh n1 n2 => by
  have h1 := own_on hh HKV.out
  have h2 := own_same (w' := X1) h1 (fun j hj => by obtain ⟨cc, hc⟩ := own_ty h1 hj; exact HK1.out.obj j (row_lt hc) (row_ne hc HSV.out.z1 n1))
  exact own_same h2 (fun j hj => by obtain ⟨cc, hc⟩ := own_ty h2 hj; exact HK2.out.obj j (row_lt hc) (row_ne hc HZ2.out n2)))
   obtain ⟨k, hk, ek⟩ := HT1.out.cm
   have hC : cms o s N c0 = (b1, es1, q1) := by rw [← ek]; exact cms_end (HX.out)
   rw [hC]
   exact ⟨d1, p1, n1, c1, rfl, HT1.out.df, ⟨⟨HKE.out _ _ _ _ _ _ (HT1.out.dm.on (Below.refl _ _)).r1 (by decide) (by decide), HKE.out _ _ _ _ _ _ (HT1.out.dm.on (Below.refl _ _)).r2 (by decide) (by decide), HT1.out.dm.l1, HT1.out.dm.l2⟩, HT1.out.nw⟩, HT1.out.en, HKE.out _ _ _ _ _ _ (HT1.out.rv.on (Below.refl _ _)) (by decide) (by decide), HT1.out.pk, (by have h1 := HT1.out.le; have h2 := HT1.out.en; omega), HYB.out⟩
end Go.Proofs.Ytalgndgoedlpoaa
