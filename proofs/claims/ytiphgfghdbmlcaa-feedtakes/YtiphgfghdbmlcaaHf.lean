/-
  A step of a pair.
-/
import Derived.Test.YtiphgfghdbmlcaaFhO
import Derived.Test.YtiphgfghdbmlcaaFhM
import Derived.Deep.MidRow
namespace Go.Proofs.Ytiphgfghdbmlcaa
open Go.RowKit Go.Deep
set_option linter.unusedVariables false
set_option linter.unusedSimpArgs false
set_option maxHeartbeats 8000000
set_option maxRecDepth 100000
attribute [local go_sem ↓] Go.wp_at_zero Go.wp_at_succ
/-- a pair behind a step. -/
def Pn (w : World) (B S M nm hold : Nat) (s : Ss) (p1 p2 q1 q2 q3 : Option Addr) (w' : World) : Prop := ∃ nm' r1 f1 r2 f2 u1 g1 u2 g2 u3 g3, nm' ≤ nm ∧ Px w' B S M nm' hold s r1 f1 r2 f2 u1 g1 u2 g2 u3 g3 ∧ Kp (fun g => g = B ∨ g = S ∨ g = M ∨ OfP p1 g ∨ OfP p2 g) w w' ∧ Fr w.heap.size p1 r1 ∧ Fr w.heap.size p2 r2 ∧ Fr w.heap.size q1 u1 ∧ Fr w.heap.size q2 u2 ∧ Fr w.heap.size q3 u3
theorem Pn.same {w w' : World} {B S M nm hold : Nat} {s : Ss} {p1 p2 q1 q2 q3 : Option Addr} {c1 c2 e1 e2 e3 : Nat} (h : Px w B S M nm hold s p1 c1 p2 c2 q1 e1 q2 e2 q3 e3) (hb : Below w.heap.size w w') : Pn w B S M (nm + 1) hold s p1 p2 q1 q2 q3 w' :=
  ⟨nm, p1, c1, p2, c2, q1, e1, q2, e2, q3, e3, by omega, h.on hb, Kp.of _ hb, Fr.refl _ _, Fr.refl _ _, Fr.refl _ _, Fr.refl _ _, Fr.refl _ _⟩
theorem row11 {w : World} {g : Nat} {t : TypeId} {a0 a1 a2 a3 a4 a5 a6 a7 a8 a9 a10 : Value} (h : w.heap[g]? = some (.cells #[a0, a1, a2, a3, a4, a5, a6, a7, a8, a9, a10] t (0, 0))) : w.cell? ⟨g, 0, none⟩ = some a0 ∧ w.cell? ⟨g, 1, none⟩ = some a1 ∧ w.cell? ⟨g, 2, none⟩ = some a2 ∧ w.cell? ⟨g, 3, none⟩ = some a3 ∧ w.cell? ⟨g, 4, none⟩ = some a4 ∧ w.cell? ⟨g, 5, none⟩ = some a5 ∧ w.cell? ⟨g, 6, none⟩ = some a6 ∧ w.cell? ⟨g, 7, none⟩ = some a7 ∧ w.cell? ⟨g, 8, none⟩ = some a8 ∧ w.cell? ⟨g, 9, none⟩ = some a9 ∧ w.cell? ⟨g, 10, none⟩ = some a10 :=
  ⟨row_cell h 0, row_cell h 1, row_cell h 2, row_cell h 3, row_cell h 4, row_cell h 5, row_cell h 6, row_cell h 7, row_cell h 8, row_cell h 9, row_cell h 10⟩
theorem spl13 (a0 a1 a2 a3 a4 a5 a6 a7 a8 a9 a10 a11 a12 b1 b2 b3 b4 b5 b6 b7 b8 b9 b10 b11 b12 : Value) : spl #[a0, a1, a2, a3, a4, a5, a6, a7, a8, a9, a10, a11, a12] 1 (#[b1, b2, b3, b4, b5, b6, b7, b8, b9, b10, b11, b12] : Array Value).toList = #[a0, b1, b2, b3, b4, b5, b6, b7, b8, b9, b10, b11, b12] := by kernel_rfl
/-- what is no subscriber's stays. -/
theorem Su.apart {w : World} {S M nm hold : Nat} {s : Ss} {p1 p2 : Option Addr} {c1 c2 : Nat} (h : Su w S M nm hold s p1 c1 p2 c2) {g : Nat} {c : Array Value} {t : TypeId} (hg : w.heap[g]? = some (.cells c t (0, 0))) (ht : t ≠ 92) (ht2 : t ≠ 89) : ¬ (g = S ∨ g = M ∨ OfP p1 g ∨ OfP p2 g) := by
  rintro (e | e | e | e)
  · exact row_ne hg h.sb.row ht e
  · exact map_ne h.sb.hm hg e.symm
  · obtain ⟨cu, hc⟩ := h.sb.o1.ty e; exact row_ne hg hc ht2 rfl
  · obtain ⟨cu, hc⟩ := h.sb.o2.ty e; exact row_ne hg hc ht2 rfl
theorem Su.apartL {w : World} {S M nm hold : Nat} {s : Ss} {p1 p2 : Option Addr} {c1 c2 : Nat} (h : Su w S M nm hold s p1 c1 p2 c2) {g : Nat} {c : Array Value} (hg : w.heap[g]? = some (.cells c 89 (0, 0))) (h1 : ¬ OfP p1 g) (h2 : ¬ OfP p2 g) : ¬ (g = S ∨ g = M ∨ OfP p1 g ∨ OfP p2 g) := by
  rintro (e | e | e | e)
  · exact row_ne hg h.sb.row (by decide) e
  · exact map_ne h.sb.hm hg e.symm
  · exact h1 e
  · exact h2 e
theorem Su.kept {w w' : World} {F : Nat → Prop} {S M nm hold : Nat} {s : Ss} {p1 p2 : Option Addr} {c1 c2 : Nat} (h : Su w S M nm hold s p1 c1 p2 c2) (hk : Kp F w w') (hF : ∀ g, (g = S ∨ g = M ∨ OfP p1 g ∨ OfP p2 g) → ¬ F g) : Su w' S M nm hold s p1 c1 p2 c2 :=
  ⟨h.sb.kept hk (hF S (.inl rfl)) (hF M (.inr (.inl rfl))) (fun g hg => hF g (.inr (.inr (.inl hg)))) (fun g hg => hF g (.inr (.inr (.inr hg)))), h.ap⟩
theorem Rd.ltP {w : World} {s : Ss} {q1 q2 q3 : Option Addr} {e1 e2 e3 : Nat} (h : Rd w s q1 e1 q2 e2 q3 e3) : (∀ g, OfP q1 g → g < w.heap.size) ∧ (∀ g, OfP q2 g → g < w.heap.size) ∧ (∀ g, OfP q3 g → g < w.heap.size) :=
  ⟨fun g hg => by obtain ⟨cu, hc⟩ := h.o1.ty hg; exact row_lt hc, fun g hg => by obtain ⟨cu, hc⟩ := h.o2.ty hg; exact row_lt hc, fun g hg => by obtain ⟨cu, hc⟩ := h.o3.ty hg; exact row_lt hc⟩
theorem Rd.tyK {w w' : World} {F : Nat → Prop} {s : Ss} {q1 q2 q3 : Option Addr} {e1 e2 e3 : Nat} (h : Rd w s q1 e1 q2 e2 q3 e3) (hk : Kp F w w') {g : Nat} {c : Array Value} {t : TypeId} (hF : ∀ j, F j → j = g) (hg : w.heap[g]? = some (.cells c t (0, 0))) (t1 : 89 ≠ t) (t2 : 48 ≠ t) : Rd w' s q1 e1 q2 e2 q3 e3 :=
  h.kept hk (fun j hj e => by obtain ⟨cu, hc⟩ := h.o1.ty hj; exact row_ne hc hg t1 (hF j e)) (fun j hj e => by obtain ⟨cu, hc⟩ := h.o2.ty hj; exact row_ne hc hg t1 (hF j e)) (fun j hj e => by obtain ⟨cu, hc⟩ := h.o3.ty hj; exact row_ne hc hg t2 (hF j e))
theorem Su.tyK {w w' : World} {F : Nat → Prop} {S M nm hold : Nat} {s : Ss} {p1 p2 : Option Addr} {c1 c2 : Nat} (h : Su w S M nm hold s p1 c1 p2 c2) (hk : Kp F w w') {g : Nat} {c : Array Value} {t : TypeId} (hF : ∀ j, F j → j = g) (hg : w.heap[g]? = some (.cells c t (0, 0))) (t1 : t ≠ 92) (t2 : t ≠ 89) : Su w' S M nm hold s p1 c1 p2 c2 :=
  h.kept hk (fun j hj e => by have := hF j e; subst this; exact h.apart hg t1 t2 hj)
/-- two slices' blocks are apart: old ones were, new ones lie apart. -/
theorem fr_apart {n N : Nat} {p r q u : Option Addr} (hf : Fr N p r) (hu : Fr n q u) (hpn : ∀ g, OfP p g → g < n) (hun : ∀ g, OfP u g → g < N) (ha : ∀ g, OfP p g → ¬ OfP q g) : ∀ g, OfP r g → ¬ OfP u g := by
  intro g hg hu'
  rcases hf g hg with h | h
  · rcases hu g hu' with k | k
    · exact ha g h k
    · have := hpn g h; omega
  · have := hun g hu'; omega
theorem step_take {w : World} {B S M nm hold : Nat} {s : Ss} {p1 p2 q1 q2 q3 : Option Addr} {c1 c2 e1 e2 e3 : Nat} (h : Px w B S M nm hold s p1 c1 p2 c2 q1 e1 q2 e2 q3 e3) (hh : hold ≤ 1024) (ot : Bool) (d : Dm) (hq : 0 ≤ d.sq ∧ d.sq < 18446744073709551616) (hnm : nm < maxLen) (ps : Int) (b1 b2 : Option Addr) (m1 d1 m2 d2 : Nat) (kd : Int) (hkd : kd = 0) :
    Calls Try.prog 19 #[.pointer (some ⟨B, 0, none⟩), .agg #[.int .i64 kd, .bool ot, .int .u64 d.sq, .int .i64 d.kd, .int .i64 d.sd, .int .i64 d.pr, .int .u64 d.qt, .int .i64 d.ct, .int .u64 ps, .slice b1 m1 d1, .slice b2 m2 d2]] w fun e w' => e = .returned (.bool true) ∧ Pn w B S M (nm + 1) hold (tkS hold s d) p1 p2 q1 q2 q3 w' := by
  obtain ⟨sq, gr, l1, l2, L, la⟩ := s
  obtain ⟨n1, hn1⟩ : ∃ n, l1.length = n := ⟨_, rfl⟩
  obtain ⟨n2, hn2⟩ : ∃ n, l2.length = n := ⟨_, rfl⟩
  obtain ⟨n, hn⟩ : ∃ n, L.length = n := ⟨_, rfl⟩
  obtain ⟨N, hN⟩ : ∃ N, tkS hold ⟨sq, gr, l1, l2, L, la⟩ d = N := ⟨_, rfl⟩
  obtain ⟨E, hE⟩ : ∃ E, tkE ⟨sq, gr, l1, l2, L, la⟩ d = E := ⟨_, rfl⟩
  obtain ⟨k1, hk1⟩ : ∃ n, N.l1.length = n := ⟨_, rfl⟩
  obtain ⟨k2, hk2⟩ : ∃ n, N.l2.length = n := ⟨_, rfl⟩
  obtain ⟨k3, hk3⟩ : ∃ n, N.L.length = n := ⟨_, rfl⟩
  rw [hN]
  obtain ⟨R, hR⟩ : ∃ R, w.heap.size = R := ⟨_, rfl⟩
  obtain ⟨W, hW⟩ : ∃ W, w.alloc (.cells #[.int .i64 kd, .bool ot, .int .u64 d.sq, .int .i64 d.kd, .int .i64 d.sd, .int .i64 d.pr, .int .u64 d.qt, .int .i64 d.ct, .int .u64 ps, .slice b1 m1 d1, .slice b2 m2 d2] 64) = W := ⟨_, rfl⟩
  have hb0 : Below w.heap.size w W := by rw [← hW]; exact ball _ _
  have HO := hid (show W.heap[R]? = some (.cells #[.int .i64 kd, .bool ot, .int .u64 d.sq, .int .i64 d.kd, .int .i64 d.sd, .int .i64 d.pr, .int .u64 d.qt, .int .i64 d.ct, .int .u64 ps, .slice b1 m1 d1, .slice b2 m2 d2] 64 (0, 0)) from by rw [← hW, ← hR]; exact World.alloc_heap_new _ _)
  have HROW := hid (show W.heap[B]? = some (.cells #[.pointer (some ⟨S, 0, none⟩), .int .i64 hold, .int .u64 sq, .slice q1 n1 e1, .slice q2 n2 e2, .slice q3 n e3, .int .u64 gr, .int .u64 la.sq, .int .i64 la.kd, .int .i64 la.sd, .int .i64 la.pr, .int .u64 la.qt, .int .i64 la.ct] 62 (0, 0)) from by rw [← hn1, ← hn2, ← hn]; exact (h.on hb0).row)
  have HX := hid h
  have HB := hid hb0
  have HNG := hid (show Sg hold N from by rw [← hN]; exact h.sg.tkS hq)
  have CT := hid (show ∀ U, Below W.heap.size W U → Calls Try.prog 35 #[.agg #[.int .i64 hold, .int .u64 sq, .slice q1 n1 e1, .slice q2 n2 e2, .slice q3 n e3, .int .u64 gr, .int .u64 la.sq, .int .i64 la.kd, .int .i64 la.sd, .int .i64 la.pr, .int .u64 la.qt, .int .i64 la.ct], .agg #[.int .u64 d.sq, .int .i64 d.kd, .int .i64 d.sd, .int .i64 d.pr, .int .u64 d.qt, .int .i64 d.ct]] U fun e w' => ∃ u1 g1 u2 g2 u3 g3, e = .returned (.tuple #[.agg #[.int .i64 hold, .int .u64 N.sq, .slice u1 k1 g1, .slice u2 k2 g2, .slice u3 k3 g3, .int .u64 N.gr, .int .u64 N.la.sq, .int .i64 N.la.kd, .int .i64 N.la.sd, .int .i64 N.la.pr, .int .u64 N.la.qt, .int .i64 N.la.ct], .int .i64 E]) ∧ Hid (Rd w' N u1 g1 u2 g2 u3 g3) ∧ Hid (Fr W.heap.size q1 u1) ∧ Hid (Fr W.heap.size q2 u2) ∧ Hid (Fr W.heap.size q3 u3) ∧ Hid (Below U.heap.size U w') from fun U hU => by
    have hc := rtake_any hold hh ⟨sq, gr, l1, l2, L, la⟩ d h.sg hq q1 q2 q3 e1 e2 e3 U (h.on (btr hb0 hU)).rd
    dsimp only at hc
    rw [hN, hE, hn1, hn2, hn] at hc
    refine hc.mono ?_
    rintro e w' ⟨v, rfl, u1, g1, u2, g2, u3, g3, rfl, x1, x2, x3, x4, x5⟩
    rw [hk1, hk2, hk3]
    exact ⟨u1, g1, u2, g2, u3, g3, rfl, x1, x2.mono hU.size, x3.mono hU.size, x4.mono hU.size, x5⟩)
  have CK := hid (fun (U : World) (hU : Su U S M nm hold ⟨sq, gr, l1, l2, L, la⟩ p1 c1 p2 c2) => take_any hU h.sg d hq hnm)
  rw [hN, hE] at CK
  have eE : (E == E) = true := by simp
  have HK1 := hid hk1
  have HK2 := hid hk2
  have HK3 := hid hk3
  have HW := hid hW
  have HR := hid hR
  obtain ⟨o0, o1, o2, o3, o4, o5, o6, o7, o8, o9, o10⟩ := row11 HO.out
  subst hkd
  clear h hn1 hn2 hn hN hE hk1 hk2 hk3 hW hR hb0
  go_enter Try.func19, Try.ntmps19
  go_upto_region 1 with fail
  rw [HW.out, HR.out]
  go_upto_region 3 with fail
  refine reg_cut (X := Nat × Option Addr × Nat × Option Addr × Nat × Option Addr × Nat) (fun a t => ((((((((((((a.put (some 17) (.pointer (some ⟨B, 0, none⟩))).put (some 18) (.pointer (some ⟨B, 0, none⟩))).put (some 19) (.pointer (some ⟨B, 1, none⟩))).put (some 20) (.agg #[.int .i64 hold, .int .u64 sq, .slice q1 n1 e1, .slice q2 n2 e2, .slice q3 n e3, .int .u64 gr, .int .u64 la.sq, .int .i64 la.kd, .int .i64 la.sd, .int .i64 la.pr, .int .u64 la.qt, .int .i64 la.ct])).put (some 21) (.pointer (some ⟨R, 2, none⟩))).put (some 22) (.agg #[.int .u64 d.sq, .int .i64 d.kd, .int .i64 d.sd, .int .i64 d.pr, .int .u64 d.qt, .int .i64 d.ct])).put (some 23) (.tuple #[.agg #[.int .i64 hold, .int .u64 N.sq, .slice t.2.1 k1 t.2.2.1, .slice t.2.2.2.1 k2 t.2.2.2.2.1, .slice t.2.2.2.2.2.1 k3 t.2.2.2.2.2.2, .int .u64 N.gr, .int .u64 N.la.sq, .int .i64 N.la.kd, .int .i64 N.la.sd, .int .i64 N.la.pr, .int .u64 N.la.qt, .int .i64 N.la.ct], .int .i64 E])).put (some 16) (.tuple #[.agg #[.int .i64 hold, .int .u64 N.sq, .slice t.2.1 k1 t.2.2.1, .slice t.2.2.2.1 k2 t.2.2.2.2.1, .slice t.2.2.2.2.2.1 k3 t.2.2.2.2.2.2, .int .u64 N.gr, .int .u64 N.la.sq, .int .i64 N.la.kd, .int .i64 N.la.sd, .int .i64 N.la.pr, .int .u64 N.la.qt, .int .i64 N.la.ct], .int .i64 E])).put (some 24) (.agg #[.int .i64 hold, .int .u64 N.sq, .slice t.2.1 k1 t.2.2.1, .slice t.2.2.2.1 k2 t.2.2.2.2.1, .slice t.2.2.2.2.2.1 k3 t.2.2.2.2.2.2, .int .u64 N.gr, .int .u64 N.la.sq, .int .i64 N.la.kd, .int .i64 N.la.sd, .int .i64 N.la.pr, .int .u64 N.la.qt, .int .i64 N.la.ct])).put (some 25) (.int .i64 E)).put (some 5) (.pointer (some ⟨t.1, 0, none⟩))).put (some 6) (.int .i64 E))) (fun t V => Hid (V.heap[t.1]? = some (.cells #[.int .i64 hold, .int .u64 N.sq, .slice t.2.1 k1 t.2.2.1, .slice t.2.2.2.1 k2 t.2.2.2.2.1, .slice t.2.2.2.2.2.1 k3 t.2.2.2.2.2.2, .int .u64 N.gr, .int .u64 N.la.sq, .int .i64 N.la.kd, .int .i64 N.la.sd, .int .i64 N.la.pr, .int .u64 N.la.qt, .int .i64 N.la.ct] 57 (0, 0))) ∧ Hid (Rd V N t.2.1 t.2.2.1 t.2.2.2.1 t.2.2.2.2.1 t.2.2.2.2.2.1 t.2.2.2.2.2.2) ∧ Hid (Fr W.heap.size q1 t.2.1) ∧ Hid (Fr W.heap.size q2 t.2.2.2.1) ∧ Hid (Fr W.heap.size q3 t.2.2.2.2.2.1) ∧ Hid (Below W.heap.size W V)) ?_ ?_
  · obtain ⟨V1, hV1⟩ : ∃ U, W.drew = U := ⟨_, rfl⟩
    have BV1 := hid (show Below W.heap.size W V1 from by rw [← hV1]; exact bdrew1 _)
    have r2 := hid (row_on HROW.out BV1.out)
    have r3 := hid (row_on HO.out BV1.out)
    refine wp_region_held_drew (S := (fun U => U.cell? ⟨B, 1, none⟩ = some (.int .i64 hold) ∧ U.cell? ⟨B, 2, none⟩ = some (.int .u64 sq) ∧ U.cell? ⟨B, 3, none⟩ = some (.slice q1 n1 e1) ∧ U.cell? ⟨B, 4, none⟩ = some (.slice q2 n2 e2) ∧ U.cell? ⟨B, 5, none⟩ = some (.slice q3 n e3) ∧ U.cell? ⟨B, 6, none⟩ = some (.int .u64 gr) ∧ U.cell? ⟨B, 7, none⟩ = some (.int .u64 la.sq) ∧ U.cell? ⟨B, 8, none⟩ = some (.int .i64 la.kd) ∧ U.cell? ⟨B, 9, none⟩ = some (.int .i64 la.sd) ∧ U.cell? ⟨B, 10, none⟩ = some (.int .i64 la.pr) ∧ U.cell? ⟨B, 11, none⟩ = some (.int .u64 la.qt) ∧ U.cell? ⟨B, 12, none⟩ = some (.int .i64 la.ct) ∧ U.cell? ⟨R, 2, none⟩ = some (.int .u64 d.sq) ∧ U.cell? ⟨R, 3, none⟩ = some (.int .i64 d.kd) ∧ U.cell? ⟨R, 4, none⟩ = some (.int .i64 d.sd) ∧ U.cell? ⟨R, 5, none⟩ = some (.int .i64 d.pr) ∧ U.cell? ⟨R, 6, none⟩ = some (.int .u64 d.qt) ∧ U.cell? ⟨R, 7, none⟩ = some (.int .i64 d.ct))) (by kernel_rfl) ?_ (fun hHeld => ?_)
    · (try dsimp only); rw [hV1]; exact ⟨row_cell r2.out 1, row_cell r2.out 2, row_cell r2.out 3, row_cell r2.out 4, row_cell r2.out 5, row_cell r2.out 6, row_cell r2.out 7, row_cell r2.out 8, row_cell r2.out 9, row_cell r2.out 10, row_cell r2.out 11, row_cell r2.out 12, row_cell r3.out 2, row_cell r3.out 3, row_cell r3.out 4, row_cell r3.out 5, row_cell r3.out 6, row_cell r3.out 7⟩
    rw [hV1] at hHeld ⊢
    clear hV1
    refine' wpAnyH_take (i := 0) (oi := _) (v := _) rfl (by kernel_rfl) (by kernel_rfl) (by kernel_rfl) (fun _ _ _ h => h) (Or.inl ⟨by kernel_rfl, ?_⟩) (by assumption) ?_
    rotate_left
    · (intro w hSw; (try dsimp only at hSw); go_simp; try (with_reducible rfl))
    try simp only [List.getElem_toArray, List.getElem_cons_succ, List.getElem_cons_zero, Act.put, List.setIfInBounds_toArray, List.set_cons_zero, List.set_cons_succ]
    refine' wpAnyH_take (i := 1) (oi := _) (v := _) rfl (by kernel_rfl) (by kernel_rfl) (by kernel_rfl) (fun _ _ _ h => h) (Or.inl ⟨by kernel_rfl, ?_⟩) (by assumption) ?_
    rotate_left
    · (intro w hSw; (try dsimp only at hSw); go_simp; try (with_reducible rfl))
    try simp only [List.getElem_toArray, List.getElem_cons_succ, List.getElem_cons_zero, Act.put, List.setIfInBounds_toArray, List.set_cons_zero, List.set_cons_succ]
    refine' wpAnyH_take (i := 2) (oi := _) (v := _) rfl (by kernel_rfl) (by kernel_rfl) (by kernel_rfl) (fun _ _ _ h => h) (Or.inl ⟨by kernel_rfl, ?_⟩) (by assumption) ?_
    rotate_left
    · (intro w hSw; (try dsimp only at hSw); go_simp; try (with_reducible rfl))
    try simp only [List.getElem_toArray, List.getElem_cons_succ, List.getElem_cons_zero, Act.put, List.setIfInBounds_toArray, List.set_cons_zero, List.set_cons_succ]
    refine' wpAnyH_take (i := 3) (oi := _) (v := _) rfl (by kernel_rfl) (by kernel_rfl) (by kernel_rfl) (fun _ _ _ h => h) (Or.inl ⟨by kernel_rfl, ?_⟩) (by assumption) ?_
    rotate_left
    · (intro w hSw; (try dsimp only at hSw); go_simp; try (with_reducible rfl))
    try simp only [List.getElem_toArray, List.getElem_cons_succ, List.getElem_cons_zero, Act.put, List.setIfInBounds_toArray, List.set_cons_zero, List.set_cons_succ]
    refine' wpAnyH_take (i := 4) (oi := _) (v := _) rfl (by kernel_rfl) (by kernel_rfl) (by kernel_rfl) (fun _ _ _ h => h) (Or.inl ⟨by kernel_rfl, ?_⟩) (by assumption) ?_
    rotate_left
    · (intro w hSw; (try dsimp only at hSw); go_simp; try (with_reducible rfl))
    try simp only [List.getElem_toArray, List.getElem_cons_succ, List.getElem_cons_zero, Act.put, List.setIfInBounds_toArray, List.set_cons_zero, List.set_cons_succ]
    refine' wpAnyH_take (i := 5) (oi := _) (v := _) rfl (by kernel_rfl) (by kernel_rfl) (by kernel_rfl) (fun _ _ _ h => h) (Or.inl ⟨by kernel_rfl, ?_⟩) (by assumption) ?_
    rotate_left
    · (intro w hSw; (try dsimp only at hSw); go_simp; try (with_reducible rfl))
    try simp only [List.getElem_toArray, List.getElem_cons_succ, List.getElem_cons_zero, Act.put, List.setIfInBounds_toArray, List.set_cons_zero, List.set_cons_succ]
    refine wpAnyH_ready (rs := [6, 10]) (by kernel_rfl) (by simp) ?_
    refine (AllReadyH.cons (o := _) rfl (fun K hK => ?_) (AllReadyH.cons (o := _) rfl (fun K hK => ?_) AllReadyH.nil))
    · go_simp
      go_at_call 35
      with_reducible refine (CT.out V1 BV1.out).mono ?_
      rintro e X4 ⟨u1, g1, u2, g2, u3, g3, rfl, HRDX, HF1, HF2, HF3, DbX4⟩
      have r5 := hid (row_on r2.out DbX4.out)
      have r6 := hid (row_on r3.out DbX4.out)
      have DX4 := hid (btr BV1.out DbX4.out)
      have UX4 := hid (BV1.out.size)
      (try go_wp2_with fail)
      refine hK.out _ _ ?_ (fun hHeld => ?_)
      · (try dsimp only); exact ⟨row_cell r5.out 1, row_cell r5.out 2, row_cell r5.out 3, row_cell r5.out 4, row_cell r5.out 5, row_cell r5.out 6, row_cell r5.out 7, row_cell r5.out 8, row_cell r5.out 9, row_cell r5.out 10, row_cell r5.out 11, row_cell r5.out 12, row_cell r6.out 2, row_cell r6.out 3, row_cell r6.out 4, row_cell r6.out 5, row_cell r6.out 6, row_cell r6.out 7⟩
      clear hK K
      try simp only [List.getElem_toArray, List.getElem_cons_succ, List.getElem_cons_zero, Act.put, List.setIfInBounds_toArray, List.set_cons_zero, List.set_cons_succ]
      refine' wpAnyH_take (i := 7) (oi := _) (v := _) rfl (by kernel_rfl) (by kernel_rfl) (by kernel_rfl) (fun _ _ _ h => h) (Or.inl ⟨by kernel_rfl, ?_⟩) (by assumption) ?_
      rotate_left
      · (intro w hSw; (try dsimp only at hSw); go_simp; try (with_reducible rfl))
      try simp only [List.getElem_toArray, List.getElem_cons_succ, List.getElem_cons_zero, Act.put, List.setIfInBounds_toArray, List.set_cons_zero, List.set_cons_succ]
      refine' wpAnyH_take (i := 8) (oi := _) (v := _) rfl (by kernel_rfl) (by kernel_rfl) (by kernel_rfl) (fun _ _ _ h => h) (Or.inl ⟨by kernel_rfl, ?_⟩) (by assumption) ?_
      rotate_left
      · (intro w hSw; (try dsimp only at hSw); go_simp; try (with_reducible rfl))
      try simp only [List.getElem_toArray, List.getElem_cons_succ, List.getElem_cons_zero, Act.put, List.setIfInBounds_toArray, List.set_cons_zero, List.set_cons_succ]
      refine' wpAnyH_take (i := 9) (oi := _) (v := _) rfl (by kernel_rfl) (by kernel_rfl) (by kernel_rfl) (fun _ _ _ h => h) (Or.inl ⟨by kernel_rfl, ?_⟩) (by assumption) ?_
      rotate_left
      · (intro w hSw; (try dsimp only at hSw); go_simp; try (with_reducible rfl))
      try simp only [List.getElem_toArray, List.getElem_cons_succ, List.getElem_cons_zero, Act.put, List.setIfInBounds_toArray, List.set_cons_zero, List.set_cons_succ]
      refine wpAnyH_ready (rs := [10]) (by kernel_rfl) (by simp) ?_
      refine (AllReadyH.cons (o := _) rfl (fun K hK => ?_) AllReadyH.nil)
      go_simp
      obtain ⟨X7, hX7⟩ : ∃ X, X4.alloc (.cells #[.int .i64 0, .int .u64 0, .slice none 0 0, .slice none 0 0, .slice none 0 0, .int .u64 0, .int .u64 0, .int .i64 0, .int .i64 0, .int .i64 0, .int .u64 0, .int .i64 0] 57) = X := ⟨_, rfl⟩
      have bX7 : Below X4.heap.size X4 X7 := by rw [← hX7]; exact ball _ _
      have r9 := hid (row_on r5.out bX7)
      have r10 := hid (row_on r6.out bX7)
      have e11 := hid (HRDX.out.on bX7)
      have DX7 := hid (btr DX4.out bX7)
      have zX7 : X7.heap[X4.heap.size]? = some (.cells #[.int .i64 0, .int .u64 0, .slice none 0 0, .slice none 0 0, .slice none 0 0, .int .u64 0, .int .u64 0, .int .i64 0, .int .i64 0, .int .i64 0, .int .u64 0, .int .i64 0] 57 (0, 0)) := by rw [← hX7]; exact World.alloc_heap_new _ _
      have yg8 := DX4.out.size
      obtain ⟨g8, hg8⟩ : ∃ g, X4.heap.size = g := ⟨_, rfl⟩
      have n12 : g8 ≠ B := by have := row_lt r5.out; omega
      have n13 : g8 ≠ R := by have := row_lt r6.out; omega
      rw [hg8] at zX7 yg8
      have ZX7 := hid zX7
      rw [hX7, hg8]
      clear hX7 hg8 zX7 bX7
      refine hK.out _ _ ?_ (fun hHeld => ?_)
      · (try dsimp only); exact ⟨row_cell r9.out 1, row_cell r9.out 2, row_cell r9.out 3, row_cell r9.out 4, row_cell r9.out 5, row_cell r9.out 6, row_cell r9.out 7, row_cell r9.out 8, row_cell r9.out 9, row_cell r9.out 10, row_cell r9.out 11, row_cell r9.out 12, row_cell r10.out 2, row_cell r10.out 3, row_cell r10.out 4, row_cell r10.out 5, row_cell r10.out 6, row_cell r10.out 7⟩
      clear hK K
      try simp only [List.getElem_toArray, List.getElem_cons_succ, List.getElem_cons_zero, Act.put, List.setIfInBounds_toArray, List.set_cons_zero, List.set_cons_succ]
      refine wpAnyH_ready (rs := [11]) (by kernel_rfl) (by simp) ?_
      refine (AllReadyH.cons (o := _) rfl (fun K hK => ?_) AllReadyH.nil)
      refine step_store_row (by rfl) 57 (.tmp 5) (.tmp 24) (by rfl) g8 #[.int .i64 hold, .int .u64 N.sq, .slice u1 k1 g1, .slice u2 k2 g2, .slice u3 k3 g3, .int .u64 N.gr, .int .u64 N.la.sq, .int .i64 N.la.kd, .int .i64 N.la.sd, .int .i64 N.la.pr, .int .u64 N.la.qt, .int .i64 N.la.ct] (by rfl) (by rfl) 57 _ ZX7.out infoRS (by rfl) (by simp [Value.oneCell']) ?_
      obtain ⟨Y14, hY14⟩ : ∃ Y, X7.setRow g8 #[.int .i64 hold, .int .u64 N.sq, .slice u1 k1 g1, .slice u2 k2 g2, .slice u3 k3 g3, .int .u64 N.gr, .int .u64 N.la.sq, .int .i64 N.la.kd, .int .i64 N.la.sd, .int .i64 N.la.pr, .int .u64 N.la.qt, .int .i64 N.la.ct] = Y := ⟨_, rfl⟩
      have KY14 := hid (show Kp (fun j => j = g8) X7 Y14 from by rw [← hY14]; exact setRow_kp _ _ _)
      have AY14 := hid (show Y14.heap[g8]? = some (.cells #[.int .i64 hold, .int .u64 N.sq, .slice u1 k1 g1, .slice u2 k2 g2, .slice u3 k3 g3, .int .u64 N.gr, .int .u64 N.la.sq, .int .i64 N.la.kd, .int .i64 N.la.sd, .int .i64 N.la.pr, .int .u64 N.la.qt, .int .i64 N.la.ct] 57 (0, 0)) from by rw [← hY14]; exact setRow_heap X7 g8 _ _ 57 (0, 0) ZX7.out)
      have DY14 := hid (show Below W.heap.size W Y14 from by rw [← hY14]; exact setRow_below DX7.out yg8)
      have r15 := hid (KY14.out.row r9.out (fun e => n12.symm e))
      have r16 := hid (KY14.out.row r10.out (fun e => n13.symm e))
      have e17 := hid (e11.out.tyK KY14.out (fun j h => h) ZX7.out (by decide) (by decide))
      rw [hY14]
      refine hK.out _ _ ?_ (fun hHeld => ?_)
      · (try dsimp only); exact ⟨row_cell r15.out 1, row_cell r15.out 2, row_cell r15.out 3, row_cell r15.out 4, row_cell r15.out 5, row_cell r15.out 6, row_cell r15.out 7, row_cell r15.out 8, row_cell r15.out 9, row_cell r15.out 10, row_cell r15.out 11, row_cell r15.out 12, row_cell r16.out 2, row_cell r16.out 3, row_cell r16.out 4, row_cell r16.out 5, row_cell r16.out 6, row_cell r16.out 7⟩
      clear hK K hY14
      try simp only [List.getElem_toArray, List.getElem_cons_succ, List.getElem_cons_zero, Act.put, List.setIfInBounds_toArray, List.set_cons_zero, List.set_cons_succ]
      refine' wpAnyH_take (i := 12) (oi := _) (v := _) rfl (by kernel_rfl) (by kernel_rfl) (by kernel_rfl) (fun _ _ _ h => h) (Or.inl ⟨by kernel_rfl, ?_⟩) (by assumption) ?_
      rotate_left
      · (intro w hSw; (try dsimp only at hSw); go_simp; try (with_reducible rfl))
      try simp only [List.getElem_toArray, List.getElem_cons_succ, List.getElem_cons_zero, Act.put, List.setIfInBounds_toArray, List.set_cons_zero, List.set_cons_succ]
      refine wpAnyH_done (by kernel_rfl) ?_ _
      exact ⟨(g8, u1, g1, u2, g2, u3, g3), by kernel_rfl, AY14, e17, HF1, HF2, HF3, DY14⟩
    · go_simp
      obtain ⟨X18, hX18⟩ : ∃ X, V1.alloc (.cells #[.int .i64 0, .int .u64 0, .slice none 0 0, .slice none 0 0, .slice none 0 0, .int .u64 0, .int .u64 0, .int .i64 0, .int .i64 0, .int .i64 0, .int .u64 0, .int .i64 0] 57) = X := ⟨_, rfl⟩
      have bX18 : Below V1.heap.size V1 X18 := by rw [← hX18]; exact ball _ _
      have r20 := hid (row_on r2.out bX18)
      have r21 := hid (row_on r3.out bX18)
      have DX18 := hid (btr BV1.out bX18)
      have zX18 : X18.heap[V1.heap.size]? = some (.cells #[.int .i64 0, .int .u64 0, .slice none 0 0, .slice none 0 0, .slice none 0 0, .int .u64 0, .int .u64 0, .int .i64 0, .int .i64 0, .int .i64 0, .int .u64 0, .int .i64 0] 57 (0, 0)) := by rw [← hX18]; exact World.alloc_heap_new _ _
      have yg19 := BV1.out.size
      obtain ⟨g19, hg19⟩ : ∃ g, V1.heap.size = g := ⟨_, rfl⟩
      have n22 : g19 ≠ B := by have := row_lt r2.out; omega
      have n23 : g19 ≠ R := by have := row_lt r3.out; omega
      rw [hg19] at zX18 yg19
      have ZX18 := hid zX18
      rw [hX18, hg19]
      clear hX18 hg19 zX18 bX18
      refine hK.out _ _ ?_ (fun hHeld => ?_)
      · (try dsimp only); exact ⟨row_cell r20.out 1, row_cell r20.out 2, row_cell r20.out 3, row_cell r20.out 4, row_cell r20.out 5, row_cell r20.out 6, row_cell r20.out 7, row_cell r20.out 8, row_cell r20.out 9, row_cell r20.out 10, row_cell r20.out 11, row_cell r20.out 12, row_cell r21.out 2, row_cell r21.out 3, row_cell r21.out 4, row_cell r21.out 5, row_cell r21.out 6, row_cell r21.out 7⟩
      clear hK K
      try simp only [List.getElem_toArray, List.getElem_cons_succ, List.getElem_cons_zero, Act.put, List.setIfInBounds_toArray, List.set_cons_zero, List.set_cons_succ]
      refine wpAnyH_ready (rs := [6]) (by kernel_rfl) (by simp) ?_
      refine (AllReadyH.cons (o := _) rfl (fun K hK => ?_) AllReadyH.nil)
      go_simp
      go_at_call 35
      with_reducible refine (CT.out X18 DX18.out).mono ?_
      rintro e X24 ⟨u1, g1, u2, g2, u3, g3, rfl, HRDX, HF1, HF2, HF3, DbX24⟩
      have r25 := hid (row_on r20.out DbX24.out)
      have r26 := hid (row_on r21.out DbX24.out)
      have r27 := hid (row_on ZX18.out DbX24.out)
      have DX24 := hid (btr DX18.out DbX24.out)
      have UX24 := hid (DX18.out.size)
      (try go_wp2_with fail)
      refine hK.out _ _ ?_ (fun hHeld => ?_)
      · (try dsimp only); exact ⟨row_cell r25.out 1, row_cell r25.out 2, row_cell r25.out 3, row_cell r25.out 4, row_cell r25.out 5, row_cell r25.out 6, row_cell r25.out 7, row_cell r25.out 8, row_cell r25.out 9, row_cell r25.out 10, row_cell r25.out 11, row_cell r25.out 12, row_cell r26.out 2, row_cell r26.out 3, row_cell r26.out 4, row_cell r26.out 5, row_cell r26.out 6, row_cell r26.out 7⟩
      clear hK K
      try simp only [List.getElem_toArray, List.getElem_cons_succ, List.getElem_cons_zero, Act.put, List.setIfInBounds_toArray, List.set_cons_zero, List.set_cons_succ]
      refine' wpAnyH_take (i := 7) (oi := _) (v := _) rfl (by kernel_rfl) (by kernel_rfl) (by kernel_rfl) (fun _ _ _ h => h) (Or.inl ⟨by kernel_rfl, ?_⟩) (by assumption) ?_
      rotate_left
      · (intro w hSw; (try dsimp only at hSw); go_simp; try (with_reducible rfl))
      try simp only [List.getElem_toArray, List.getElem_cons_succ, List.getElem_cons_zero, Act.put, List.setIfInBounds_toArray, List.set_cons_zero, List.set_cons_succ]
      refine' wpAnyH_take (i := 8) (oi := _) (v := _) rfl (by kernel_rfl) (by kernel_rfl) (by kernel_rfl) (fun _ _ _ h => h) (Or.inl ⟨by kernel_rfl, ?_⟩) (by assumption) ?_
      rotate_left
      · (intro w hSw; (try dsimp only at hSw); go_simp; try (with_reducible rfl))
      try simp only [List.getElem_toArray, List.getElem_cons_succ, List.getElem_cons_zero, Act.put, List.setIfInBounds_toArray, List.set_cons_zero, List.set_cons_succ]
      refine' wpAnyH_take (i := 9) (oi := _) (v := _) rfl (by kernel_rfl) (by kernel_rfl) (by kernel_rfl) (fun _ _ _ h => h) (Or.inl ⟨by kernel_rfl, ?_⟩) (by assumption) ?_
      rotate_left
      · (intro w hSw; (try dsimp only at hSw); go_simp; try (with_reducible rfl))
      try simp only [List.getElem_toArray, List.getElem_cons_succ, List.getElem_cons_zero, Act.put, List.setIfInBounds_toArray, List.set_cons_zero, List.set_cons_succ]
      refine wpAnyH_ready (rs := [11]) (by kernel_rfl) (by simp) ?_
      refine (AllReadyH.cons (o := _) rfl (fun K hK => ?_) AllReadyH.nil)
      refine step_store_row (by rfl) 57 (.tmp 5) (.tmp 24) (by rfl) g19 #[.int .i64 hold, .int .u64 N.sq, .slice u1 k1 g1, .slice u2 k2 g2, .slice u3 k3 g3, .int .u64 N.gr, .int .u64 N.la.sq, .int .i64 N.la.kd, .int .i64 N.la.sd, .int .i64 N.la.pr, .int .u64 N.la.qt, .int .i64 N.la.ct] (by rfl) (by rfl) 57 _ r27.out infoRS (by rfl) (by simp [Value.oneCell']) ?_
      obtain ⟨Y28, hY28⟩ : ∃ Y, X24.setRow g19 #[.int .i64 hold, .int .u64 N.sq, .slice u1 k1 g1, .slice u2 k2 g2, .slice u3 k3 g3, .int .u64 N.gr, .int .u64 N.la.sq, .int .i64 N.la.kd, .int .i64 N.la.sd, .int .i64 N.la.pr, .int .u64 N.la.qt, .int .i64 N.la.ct] = Y := ⟨_, rfl⟩
      have KY28 := hid (show Kp (fun j => j = g19) X24 Y28 from by rw [← hY28]; exact setRow_kp _ _ _)
      have AY28 := hid (show Y28.heap[g19]? = some (.cells #[.int .i64 hold, .int .u64 N.sq, .slice u1 k1 g1, .slice u2 k2 g2, .slice u3 k3 g3, .int .u64 N.gr, .int .u64 N.la.sq, .int .i64 N.la.kd, .int .i64 N.la.sd, .int .i64 N.la.pr, .int .u64 N.la.qt, .int .i64 N.la.ct] 57 (0, 0)) from by rw [← hY28]; exact setRow_heap X24 g19 _ _ 57 (0, 0) r27.out)
      have DY28 := hid (show Below W.heap.size W Y28 from by rw [← hY28]; exact setRow_below DX24.out yg19)
      have r29 := hid (KY28.out.row r25.out (fun e => n22.symm e))
      have r30 := hid (KY28.out.row r26.out (fun e => n23.symm e))
      have e31 := hid (HRDX.out.tyK KY28.out (fun j h => h) r27.out (by decide) (by decide))
      rw [hY28]
      refine hK.out _ _ ?_ (fun hHeld => ?_)
      · (try dsimp only); exact ⟨row_cell r29.out 1, row_cell r29.out 2, row_cell r29.out 3, row_cell r29.out 4, row_cell r29.out 5, row_cell r29.out 6, row_cell r29.out 7, row_cell r29.out 8, row_cell r29.out 9, row_cell r29.out 10, row_cell r29.out 11, row_cell r29.out 12, row_cell r30.out 2, row_cell r30.out 3, row_cell r30.out 4, row_cell r30.out 5, row_cell r30.out 6, row_cell r30.out 7⟩
      clear hK K hY28
      try simp only [List.getElem_toArray, List.getElem_cons_succ, List.getElem_cons_zero, Act.put, List.setIfInBounds_toArray, List.set_cons_zero, List.set_cons_succ]
      refine' wpAnyH_take (i := 12) (oi := _) (v := _) rfl (by kernel_rfl) (by kernel_rfl) (by kernel_rfl) (fun _ _ _ h => h) (Or.inl ⟨by kernel_rfl, ?_⟩) (by assumption) ?_
      rotate_left
      · (intro w hSw; (try dsimp only at hSw); go_simp; try (with_reducible rfl))
      try simp only [List.getElem_toArray, List.getElem_cons_succ, List.getElem_cons_zero, Act.put, List.setIfInBounds_toArray, List.set_cons_zero, List.set_cons_succ]
      refine wpAnyH_done (by kernel_rfl) ?_ _
      exact ⟨(g19, u1, g1, u2, g2, u3, g3), by kernel_rfl, AY28, e31, HF1, HF2, HF3, DY28⟩
  · rintro ⟨blk, u1, g1, u2, g2, u3, g3⟩ V ⟨HC, HRD, HF1, HF2, HF3, BWV⟩
    dsimp only at HC HRD HF1 HF2 HF3
    have BV := hid (btr HB.out BWV.out)
    try simp only [List.getElem_toArray, List.getElem_cons_succ, List.getElem_cons_zero, Act.put, List.setIfInBounds_toArray, List.set_cons_zero, List.set_cons_succ]
    clear o0 o1 o2 o3 o4 o5 o6 o7 o8 o9 o10 CT
    have TH := hid (row_there (row_on HROW.out BWV.out) 1 12 (by simp))
    obtain ⟨z0, z1, z2, z3, z4, z5, z6, z7, z8, z9, z10, z11⟩ := row12c HC.out
    go_upto_region 5 with (refine wpList_store_mid (by rfl) 57 (.tmp 29) (.tmp 27) (by rfl) B 1 #[.int .i64 hold, .int .u64 N.sq, .slice u1 k1 g1, .slice u2 k2 g2, .slice u3 k3 g3, .int .u64 N.gr, .int .u64 N.la.sq, .int .i64 N.la.kd, .int .i64 N.la.sd, .int .i64 N.la.pr, .int .u64 N.la.qt, .int .i64 N.la.ct] (by rfl) (by rfl) TH.out infoRS (by simp [Value.oneCell']) ?_)
    obtain ⟨V1, hV1⟩ : ∃ V1, V.setCells B 1 #[.int .i64 hold, .int .u64 N.sq, .slice u1 k1 g1, .slice u2 k2 g2, .slice u3 k3 g3, .int .u64 N.gr, .int .u64 N.la.sq, .int .i64 N.la.kd, .int .i64 N.la.sd, .int .i64 N.la.pr, .int .u64 N.la.qt, .int .i64 N.la.ct].toList = V1 := ⟨_, rfl⟩
    have KV1 := hid (show Kp (fun g => g = B) V V1 from by rw [← hV1]; exact setCells_kp B _ _ _)
    have HROW1 := hid (show V1.heap[B]? = some (.cells #[.pointer (some ⟨S, 0, none⟩), .int .i64 hold, .int .u64 N.sq, .slice u1 k1 g1, .slice u2 k2 g2, .slice u3 k3 g3, .int .u64 N.gr, .int .u64 N.la.sq, .int .i64 N.la.kd, .int .i64 N.la.sd, .int .i64 N.la.pr, .int .u64 N.la.qt, .int .i64 N.la.ct] 62 (0, 0)) from by
      rw [← hV1, ← spl13 (.pointer (some ⟨S, 0, none⟩)) (.int .i64 hold) (.int .u64 sq) (.slice q1 n1 e1) (.slice q2 n2 e2) (.slice q3 n e3) (.int .u64 gr) (.int .u64 la.sq) (.int .i64 la.kd) (.int .i64 la.sd) (.int .i64 la.pr) (.int .u64 la.qt) (.int .i64 la.ct) (.int .i64 hold) (.int .u64 N.sq) (.slice u1 k1 g1) (.slice u2 k2 g2) (.slice u3 k3 g3) (.int .u64 N.gr) (.int .u64 N.la.sq) (.int .i64 N.la.kd) (.int .i64 N.la.sd) (.int .i64 N.la.pr) (.int .u64 N.la.qt) (.int .i64 N.la.ct)]
      exact setCells_row _ 1 _ _ (row_on HROW.out BWV.out))
    try rw [hV1]
    clear hV1 z0 z1 z2 z3 z4 z5 z6 z7 z8 z9 z10 z11
    have HSU := hid ((HX.out.su.on BV.out).tyK KV1.out (fun j h => h) (row_on HROW.out BWV.out) (by decide) (by decide))
    have HRD1 := hid (HRD.out.tyK KV1.out (fun j h => h) (row_on HROW.out BWV.out) (by decide) (by decide))
    have HO1 := hid (KV1.out.row (row_on HO.out BWV.out) (fun e => row_ne (row_on HO.out BWV.out) (row_on HROW.out BWV.out) (by decide) e))
    have KW := hid (show Kp (fun g => g = B) w V1 from (Kp.of _ BV.out).trans KV1.out (fun _ _ h => h))
    have CKV := hid (CK.out V1.drew (HSU.out.on (bdrew1 _)))
    have k0 := row_cell HROW1.out 0
    obtain ⟨o0, o1, o2, o3, o4, o5, o6, o7, o8, o9, o10⟩ := row11 HO1.out
    clear o0 o1 o8 o9 o10
    go_region_law (go_simp; go_at_call 36; (with_reducible refine (CKV.out).mono ?_); rintro e V2 ⟨rfl, nm', hnm', hbh⟩; have HBH := hid hbh; have HNM := hid hnm'; clear hbh hnm')
    all_goals
      go_wp2
      go_ret
      refine ⟨rfl, ?_⟩
      obtain ⟨r1, f1, r2, f2, x1, x2, x3, x4⟩ := HBH.out
      have hsu := HSU.out.on (bdrew1 V1)
      have hrd := HRD1.out.on (bdrew1 V1)
      have hrow := row_on HROW1.out (bdrew1 V1)
      have z0 := KW.out.size
      have z1 : V1.drew.heap.size = V1.heap.size := rfl
      have zB := HB.out.size
      have lp := HX.out.su.lt
      have lr := HRD1.out.ltP
      have hrow2 := x2.row hrow (hsu.apart hrow (by decide) (by decide))
      have a1 : ∀ g, OfP p1 g → ¬ OfP u1 g := fr_apart (N := V1.heap.size) (Fr.refl _ _) (HF1.out.mono zB) lp.1 lr.1 HX.out.a11
      have a2 : ∀ g, OfP p1 g → ¬ OfP u2 g := fr_apart (N := V1.heap.size) (Fr.refl _ _) (HF2.out.mono zB) lp.1 lr.2.1 HX.out.a12
      have a3 : ∀ g, OfP p2 g → ¬ OfP u1 g := fr_apart (N := V1.heap.size) (Fr.refl _ _) (HF1.out.mono zB) lp.2 lr.1 HX.out.a21
      have a4 : ∀ g, OfP p2 g → ¬ OfP u2 g := fr_apart (N := V1.heap.size) (Fr.refl _ _) (HF2.out.mono zB) lp.2 lr.2.1 HX.out.a22
      refine ⟨nm', r1, f1, r2, f2, u1, g1, u2, g2, u3, g3, HNM.out, ⟨by rw [HK1.out, HK2.out, HK3.out]; exact hrow2, x1, hrd.kept x2 (fun g hg => ?_) (fun g hg => ?_) (fun g hg => ?_), HNG.out, fr_apart x3 (HF1.out.mono zB) lp.1 lr.1 HX.out.a11, fr_apart x3 (HF2.out.mono zB) lp.1 lr.2.1 HX.out.a12, fr_apart x4 (HF1.out.mono zB) lp.2 lr.1 HX.out.a21, fr_apart x4 (HF2.out.mono zB) lp.2 lr.2.1 HX.out.a22⟩, ?_, x3.mono z0, x4.mono z0, HF1.out.mono zB, HF2.out.mono zB, HF3.out.mono zB⟩
      · obtain ⟨cu, hc⟩ := hrd.o1.ty hg
        exact hsu.apartL hc (fun e => a1 g e hg) (fun e => a3 g e hg)
      · obtain ⟨cu, hc⟩ := hrd.o2.ty hg
        exact hsu.apartL hc (fun e => a2 g e hg) (fun e => a4 g e hg)
      · obtain ⟨cu, hc⟩ := hrd.o3.ty hg
        exact hsu.apart hc (by decide) (by decide)
      · exact ((KW.out.mono (fun _ _ h => .inl h)).trans (Kp.of (fun _ => False) (bdrew1 V1)) (fun _ _ h => h.elim)).trans x2 (fun _ _ h => .inr h)
end Go.Proofs.Ytiphgfghdbmlcaa
namespace Go.Proofs.Ytiphgfghdbmlcaa
open Go.RowKit Go.Deep
set_option linter.unusedVariables false
set_option linter.unusedSimpArgs false
set_option maxHeartbeats 8000000
set_option maxRecDepth 100000
attribute [local go_sem ↓] Go.wp_at_zero Go.wp_at_succ
theorem fr_apart2 {n : Nat} {r q u : Option Addr} (hr : ∀ g, OfP r g → g < n) (hu : Fr n q u) (ha : ∀ g, OfP r g → ¬ OfP q g) : ∀ g, OfP r g → ¬ OfP u g := by
  intro g hg hu'
  rcases hu g hu' with k | k
  · exact ha g hg k
  · have := hr g hg; omega
theorem step_rec {w : World} {B S M nm hold : Nat} {s : Ss} {p1 p2 q1 q2 q3 : Option Addr} {c1 c2 e1 e2 e3 : Nat} (h : Px w B S M nm hold s p1 c1 p2 c2 q1 e1 q2 e2 q3 e3) (hh : hold ≤ 1024) (ot : Bool) (d : Dm) (ps : Int) (hps : 0 ≤ ps ∧ ps < 18446744073709551616) (b1 b2 : Option Addr) (m1 d1 m2 d2 : Nat) (M1 M2 : List Lv) (hm1 : M1.length = m1) (hm2 : M2.length = m2) (lb1 : m1 * 24 + 24 ≤ 140737488355328) (lb2 : m2 * 24 + 24 ≤ 140737488355328) (n0 : Nat) (hn0 : n0 ≤ w.heap.size) (hB1 : ∀ U : World, (∀ g, g < n0 → U.heap[g]? = w.heap[g]?) → Rl U b1 d1 M1) (hB2 : ∀ U : World, (∀ g, g < n0 → U.heap[g]? = w.heap[g]?) → Rl U b2 d2 M2) (hpn : ∀ g, (g = B ∨ g = S ∨ g = M ∨ OfP p1 g ∨ OfP p2 g) → n0 ≤ g) (kd : Int) (hkd : kd = 1) :
    Calls Try.prog 19 #[.pointer (some ⟨B, 0, none⟩), .agg #[.int .i64 kd, .bool ot, .int .u64 d.sq, .int .i64 d.kd, .int .i64 d.sd, .int .i64 d.pr, .int .u64 d.qt, .int .i64 d.ct, .int .u64 ps, .slice b1 m1 d1, .slice b2 m2 d2]] w fun e w' => e = .returned (.bool true) ∧ Pn w B S M (nm + 1) hold (rcS s ps M1 M2) p1 p2 q1 q2 q3 w' := by
  obtain ⟨sq, gr, l1, l2, L, la⟩ := s
  obtain ⟨n1, hn1⟩ : ∃ n, l1.length = n := ⟨_, rfl⟩
  obtain ⟨n2, hn2⟩ : ∃ n, l2.length = n := ⟨_, rfl⟩
  obtain ⟨n, hn⟩ : ∃ n, L.length = n := ⟨_, rfl⟩
  obtain ⟨N, hN⟩ : ∃ N, rcS ⟨sq, gr, l1, l2, L, la⟩ ps M1 M2 = N := ⟨_, rfl⟩
  obtain ⟨E, hE⟩ : ∃ E, rcE ⟨sq, gr, l1, l2, L, la⟩ ps M1 M2 = E := ⟨_, rfl⟩
  obtain ⟨k1, hk1⟩ : ∃ n, N.l1.length = n := ⟨_, rfl⟩
  obtain ⟨k2, hk2⟩ : ∃ n, N.l2.length = n := ⟨_, rfl⟩
  obtain ⟨k3, hk3⟩ : ∃ n, N.L.length = n := ⟨_, rfl⟩
  rw [hN]
  obtain ⟨R, hR⟩ : ∃ R, w.heap.size = R := ⟨_, rfl⟩
  obtain ⟨W, hW⟩ : ∃ W, w.alloc (.cells #[.int .i64 kd, .bool ot, .int .u64 d.sq, .int .i64 d.kd, .int .i64 d.sd, .int .i64 d.pr, .int .u64 d.qt, .int .i64 d.ct, .int .u64 ps, .slice b1 m1 d1, .slice b2 m2 d2] 64) = W := ⟨_, rfl⟩
  have hb0 : Below w.heap.size w W := by rw [← hW]; exact ball _ _
  have HO := hid (show W.heap[R]? = some (.cells #[.int .i64 kd, .bool ot, .int .u64 d.sq, .int .i64 d.kd, .int .i64 d.sd, .int .i64 d.pr, .int .u64 d.qt, .int .i64 d.ct, .int .u64 ps, .slice b1 m1 d1, .slice b2 m2 d2] 64 (0, 0)) from by rw [← hW, ← hR]; exact World.alloc_heap_new _ _)
  have HROW := hid (show W.heap[B]? = some (.cells #[.pointer (some ⟨S, 0, none⟩), .int .i64 hold, .int .u64 sq, .slice q1 n1 e1, .slice q2 n2 e2, .slice q3 n e3, .int .u64 gr, .int .u64 la.sq, .int .i64 la.kd, .int .i64 la.sd, .int .i64 la.pr, .int .u64 la.qt, .int .i64 la.ct] 62 (0, 0)) from by rw [← hn1, ← hn2, ← hn]; exact (h.on hb0).row)
  have HX := hid h
  have HB := hid hb0
  have HNG := hid (show Sg hold N from by rw [← hN]; exact h.sg.rcS hps)
  have CC := hid (copiedL_any ps b1 b2 d1 d2 M1 M2 W (hB1 W (fun g hg => hb0.block g (by omega))) (hB2 W (fun g hg => hb0.block g (by omega))) (by omega) (by omega))
  rw [hm1, hm2] at CC
  have CTF := hid (show ∀ V, Rd V ⟨sq, gr, l1, l2, L, la⟩ q1 e1 q2 e2 q3 e3 → Rl V b1 d1 M1 → Rl V b2 d2 M2 → ∀ U, Below V.heap.size V U → Calls Try.prog 38 #[.agg #[.int .i64 hold, .int .u64 sq, .slice q1 n1 e1, .slice q2 n2 e2, .slice q3 n e3, .int .u64 gr, .int .u64 la.sq, .int .i64 la.kd, .int .i64 la.sd, .int .i64 la.pr, .int .u64 la.qt, .int .i64 la.ct], .agg #[.int .u64 ps, .slice b1 m1 d1, .slice b2 m2 d2]] U fun e w' => ∃ u1 g1 u2 g2 u3 g3, e = .returned (.tuple #[.agg #[.int .i64 hold, .int .u64 N.sq, .slice u1 k1 g1, .slice u2 k2 g2, .slice u3 k3 g3, .int .u64 N.gr, .int .u64 N.la.sq, .int .i64 N.la.kd, .int .i64 N.la.sd, .int .i64 N.la.pr, .int .u64 N.la.qt, .int .i64 N.la.ct], .int .i64 E]) ∧ Hid (Rd w' N u1 g1 u2 g2 u3 g3) ∧ Hid (Fr V.heap.size q1 u1) ∧ Hid (Fr V.heap.size q2 u2) ∧ Hid (Fr V.heap.size q3 u3) ∧ Hid (Below U.heap.size U w') from fun V hr y1 y2 U hU => by
    have hc := rrecover_any hold hh ⟨sq, gr, l1, l2, L, la⟩ h.sg ps hps b1 b2 d1 d2 M1 M2 q1 q2 q3 e1 e2 e3 U (y1.on hU) (y2.on hU) (hr.on hU)
    dsimp only at hc
    rw [hN, hE, hn1, hn2, hn, hm1, hm2] at hc
    refine hc.mono ?_
    rintro e w' ⟨v, rfl, u1, g1, u2, g2, u3, g3, rfl, x1, x2, x3, x4, x5⟩
    rw [hk1, hk2, hk3]
    exact ⟨u1, g1, u2, g2, u3, g3, rfl, x1, x2.mono hU.size, x3.mono hU.size, x4.mono hU.size, x5⟩)
  have CK := hid (fun (U : World) (hU : Su U S M nm hold ⟨sq, gr, l1, l2, L, la⟩ p1 c1 p2 c2) (v1 v2 : Option Addr) (h1 h2 : Nat) (y1 : Rl U v1 h1 M1) (y2 : Rl U v2 h2 M2) => recover_any hU h.sg ps hps v1 v2 h1 h2 M1 M2 y1 y2)
  rw [hN, hE, hm1, hm2] at CK
  have CSF := hid (fun (U : World) (v1 v2 : Option Addr) (h1 h2 : Nat) (y1 : Rl U v1 h1 M1) (y2 : Rl U v2 h2 M2) (y3 : Rl U b1 d1 M1) (y4 : Rl U b2 d2 M2) => samePicture_same ps v1 v2 b1 b2 h1 h2 d1 d2 M1 M2 U y1 y2 y3 y4)
  rw [hm1, hm2] at CSF
  have eE : (E == E) = true := by simp
  have HK1 := hid hk1
  have HK2 := hid hk2
  have HK3 := hid hk3
  have HM1 := hid hm1
  have HM2 := hid hm2
  have HRB1 := hid hB1
  have HRB2 := hid hB2
  have HPN := hid hpn
  have HW := hid hW
  have HR := hid hR
  obtain ⟨o0, o1, o2, o3, o4, o5, o6, o7, o8, o9, o10⟩ := row11 HO.out
  subst hkd
  clear h hn1 hn2 hn hN hE hk1 hk2 hk3 hW hR hb0 hB1 hB2 hpn hm1 hm2
  go_enter Try.func19, Try.ntmps19
  go_upto_region 1 with fail
  rw [HW.out, HR.out]
  go_upto_region 8 with (go_at_call 9; (with_reducible refine (CC.out).mono ?_); rintro e w1 ⟨v1, h1, v2, h2, rfl, x1, x2, x3, x4⟩; have X1 := hid x1; have X2 := hid x2; have X3 := hid x3; have BW1 := hid x4; clear x1 x2 x3 x4)
  clear o0 o1 o2 o3 o4 o5 o6 o7 o8 o9 o10 CC
  obtain ⟨W7, hW7⟩ : ∃ V, w1.alloc (.cells #[.int .u64 ps, .slice v1 m1 h1, .slice v2 m2 h2] 30) = V := ⟨_, rfl⟩
  obtain ⟨A, hA⟩ : ∃ A, w1.heap.size = A := ⟨_, rfl⟩
  have BW7 := hid (show Below W.heap.size W W7 from by rw [← hW7]; exact btr BW1.out (ball _ _))
  have HA7 := hid (show W7.heap[A]? = some (.cells #[.int .u64 ps, .slice v1 m1 h1, .slice v2 m2 h2] 30 (0, 0)) from by rw [← hW7, ← hA]; exact World.alloc_heap_new _ _)
  have XX := hid (show Lo W.heap.size W7 v1 h1 M1 ∧ Lo W.heap.size W7 v2 h2 M2 from by rw [← hW7]; exact ⟨X1.out.on (ball _ _), X2.out.on (ball _ _)⟩)
  rw [hW7, hA]
  clear hW7 hA X1 X2
  have BB7 := hid (btr HB.out BW7.out)
  have HSU7 := hid (HX.out.su.on BB7.out)
  have CKV := hid (CK.out W7.drew (HSU7.out.on (bdrew1 _)) v1 v2 h1 h2 (XX.out.1.rl.on (bdrew1 _)) (XX.out.2.rl.on (bdrew1 _)))
  have k0 := row_cell (row_on HROW.out BW7.out) 0
  obtain ⟨j0, j1, j2⟩ := row3 HA7.out
  refine reg_cut (X := Unit) (fun a t => (((((((a.put (some 44) (.pointer (some ⟨B, 0, none⟩))).put (some 45) (.pointer (some ⟨B, 0, none⟩))).put (some 46) (.pointer (some ⟨B, 0, none⟩))).put (some 47) (.pointer (some ⟨S, 0, none⟩))).put (some 48) (.agg #[.int .u64 ps, .slice v1 m1 h1, .slice v2 m2 h2])).put (some 49) (.int .i64 E)).put (some 8) (.int .i64 E))) (fun t V => Hid (Bhd W7.drew S M nm hold N p1 p2 V)) ?_ ?_
  · go_region_law (go_simp; go_at_call 37; (with_reducible refine (CKV.out).mono ?_); rintro e V2 ⟨rfl, hbh⟩; have HBH := hid hbh; clear hbh)
    all_goals exact ⟨(), by kernel_rfl, HBH⟩
  rintro ⟨⟩ V8 HBH
  try simp only [List.getElem_toArray, List.getElem_cons_succ, List.getElem_cons_zero, Act.put, List.setIfInBounds_toArray, List.set_cons_zero, List.set_cons_succ]
  obtain ⟨r1, f1, r2, f2, x1, x2, x3, x4⟩ := HBH.out
  have hsu7 := HSU7.out.on (bdrew1 W7)
  have HSU8 := hid x1
  have KX := hid x2
  have HF3' := hid x3
  have HF4' := hid x4
  have lp := HX.out.su.lt
  have lq := HX.out.rd.ltP
  have zB := HB.out.size
  have zW := BW7.out.size
  have hv1 : ∀ g, OfP v1 g → W.heap.size ≤ g ∧ g < W7.heap.size := fun g hg => ⟨(XX.out.1.ge hg).1, by obtain ⟨cu, hc⟩ := XX.out.1.ty hg; exact row_lt hc⟩
  have hv2 : ∀ g, OfP v2 g → W.heap.size ≤ g ∧ g < W7.heap.size := fun g hg => ⟨(XX.out.2.ge hg).1, by obtain ⟨cu, hc⟩ := XX.out.2.ty hg; exact row_lt hc⟩
  have hro7 := row_on HROW.out (btr BW7.out (bdrew1 W7))
  have hop7 := row_on HO.out (btr BW7.out (bdrew1 W7))
  have hpa7 := row_on HA7.out (bdrew1 W7)
  have HROW8 := hid (x2.row hro7 (hsu7.apart hro7 (by decide) (by decide)))
  have HO8 := hid (x2.row hop7 (hsu7.apart hop7 (by decide) (by decide)))
  have HA8 := hid (x2.row hpa7 (hsu7.apart hpa7 (by decide) (by decide)))
  have HL8 := hid (show Lo W.heap.size V8 v1 h1 M1 ∧ Lo W.heap.size V8 v2 h2 M2 from by
    have y1 := XX.out.1.on (bdrew1 W7)
    have y2 := XX.out.2.on (bdrew1 W7)
    refine ⟨y1.kept x2 (fun g hg => ?_), y2.kept x2 (fun g hg => ?_)⟩
    · obtain ⟨cu, hc⟩ := y1.ty hg
      exact hsu7.apartL hc (fun e => by have := lp.1 g e; have := (hv1 g hg).1; omega) (fun e => by have := lp.2 g e; have := (hv1 g hg).1; omega)
    · obtain ⟨cu, hc⟩ := y2.ty hg
      exact hsu7.apartL hc (fun e => by have := lp.1 g e; have := (hv2 g hg).1; omega) (fun e => by have := lp.2 g e; have := (hv2 g hg).1; omega))
  have bb7 := btr BB7.out (bdrew1 W7)
  have HRD8 := hid (show Rd V8 ⟨sq, gr, l1, l2, L, la⟩ q1 e1 q2 e2 q3 e3 from by
    have y := HX.out.rd.on bb7
    refine y.kept x2 (fun g hg => ?_) (fun g hg => ?_) (fun g hg => ?_)
    · obtain ⟨cu, hc⟩ := y.o1.ty hg; exact hsu7.apartL hc (fun e => HX.out.a11 g e hg) (fun e => HX.out.a21 g e hg)
    · obtain ⟨cu, hc⟩ := y.o2.ty hg; exact hsu7.apartL hc (fun e => HX.out.a12 g e hg) (fun e => HX.out.a22 g e hg)
    · obtain ⟨cu, hc⟩ := y.o3.ty hg; exact hsu7.apart hc (by decide) (by decide))
  have K08 := hid (show Kp (fun g => g = B ∨ g = S ∨ g = M ∨ OfP p1 g ∨ OfP p2 g) w V8 from (Kp.of _ bb7).trans x2 (fun _ _ h => .inr h))
  have HR8 := hid (show Rl V8 b1 d1 M1 ∧ Rl V8 b2 d2 M2 from ⟨HRB1.out V8 (fun g hg => K08.out.obj g (by omega) (fun h => by have := HPN.out g h; omega)), HRB2.out V8 (fun g hg => K08.out.obj g (by omega) (fun h => by have := HPN.out g h; omega))⟩)
  clear x1 x2 x3 x4 HBH CKV k0 j0 j1 j2 hro7 hop7 hpa7 hsu7 bb7
  obtain ⟨j0, j1, j2⟩ := row3 HA8.out
  obtain ⟨o0, o1, o2, o3, o4, o5, o6, o7, o8, o9, o10⟩ := row11 HO8.out
  clear o0 o1 o2 o3 o4 o5 o6 o7
  have CS8 := hid (CSF.out V8 v1 v2 h1 h2 HL8.out.1.rl HL8.out.2.rl HR8.out.1 HR8.out.2)
  go_upto_region 10 with (go_at_call 16; (with_reducible refine (CS8.out).mono ?_); rintro e V9 ⟨rfl, hb⟩; have B9 := hid hb; clear hb)
  clear j0 j1 j2 o8 o9 o10 CS8
  obtain ⟨j0, j1, j2⟩ := row3 (row_on HA8.out B9.out)
  have CW := hid (wipe_any ps W.heap.size v1 v2 m1 m2 h1 h2 (lvc M1) (lvc M2) V9 (by have := HL8.out.1.on B9.out; unfold Lo at this; rw [HM1.out] at this; exact this) (by have := HL8.out.2.on B9.out; unfold Lo at this; rw [HM2.out] at this; exact this) X3.out lb1 lb2 (by have := K08.out.size; have := B9.out.size; have := KX.out.size; have z : W7.drew.heap.size = W7.heap.size := rfl; omega))
  go_upto_region 11 with (go_at_call 14; (with_reducible refine (CW.out).mono ?_); rintro e V10 ⟨rfl, k10⟩; have K10 := hid k10; clear k10)
  clear j0 j1 j2 CW
  have nv : ∀ g c t, t ≠ 89 → V9.heap[g]? = some (.cells c t (0, 0)) → ¬ (OfP v1 g ∨ OfP v2 g) := fun g c t ht hc e => by
    have y1 := HL8.out.1.on B9.out
    have y2 := HL8.out.2.on B9.out
    rcases e with e | e
    · obtain ⟨cu, hcu⟩ := y1.ty e; exact row_ne hc hcu ht rfl
    · obtain ⟨cu, hcu⟩ := y2.ty e; exact row_ne hc hcu ht rfl
  have HROW10 := hid (K10.out.row (row_on HROW8.out B9.out) (nv _ _ _ (by decide) (row_on HROW8.out B9.out)))
  have HO10 := hid (K10.out.row (row_on HO8.out B9.out) (nv _ _ _ (by decide) (row_on HO8.out B9.out)))
  have zq : ∀ g, OfP r1 g → ¬ (OfP v1 g ∨ OfP v2 g) := fun g hg e => by
    rcases HF3'.out g hg with a | a
    · have := lp.1 g a
      rcases e with e | e
      · have := (hv1 g e).1; omega
      · have := (hv2 g e).1; omega
    · have z : W7.drew.heap.size = W7.heap.size := rfl
      rcases e with e | e
      · have := (hv1 g e).2; omega
      · have := (hv2 g e).2; omega
  have zq2 : ∀ g, OfP r2 g → ¬ (OfP v1 g ∨ OfP v2 g) := fun g hg e => by
    rcases HF4'.out g hg with a | a
    · have := lp.2 g a
      rcases e with e | e
      · have := (hv1 g e).1; omega
      · have := (hv2 g e).1; omega
    · have z : W7.drew.heap.size = W7.heap.size := rfl
      rcases e with e | e
      · have := (hv1 g e).2; omega
      · have := (hv2 g e).2; omega
  have HSU10 := hid (show Su V10 S M nm hold N r1 f1 r2 f2 from by
    have y := HSU8.out.on B9.out
    refine y.kept K10.out (fun g hg => ?_)
    rcases hg with e | e | e | e
    · rw [e]; exact nv _ _ _ (by decide) y.sb.row
    · intro ev
      have y1 := HL8.out.1.on B9.out
      have y2 := HL8.out.2.on B9.out
      rcases ev with ev | ev
      · obtain ⟨cu, hcu⟩ := y1.ty ev; exact map_ne y.sb.hm hcu e.symm
      · obtain ⟨cu, hcu⟩ := y2.ty ev; exact map_ne y.sb.hm hcu e.symm
    · exact zq g e
    · exact zq2 g e)
  have HRD10 := hid (show Rd V10 ⟨sq, gr, l1, l2, L, la⟩ q1 e1 q2 e2 q3 e3 from by
    have y := HRD8.out.on B9.out
    refine y.kept K10.out (fun g hg e => ?_) (fun g hg e => ?_) (fun g hg e => ?_)
    · have := lq.1 g hg
      rcases e with e | e
      · have := (hv1 g e).1; omega
      · have := (hv2 g e).1; omega
    · have := lq.2.1 g hg
      rcases e with e | e
      · have := (hv1 g e).1; omega
      · have := (hv2 g e).1; omega
    · have := lq.2.2 g hg
      rcases e with e | e
      · have := (hv1 g e).1; omega
      · have := (hv2 g e).1; omega)
  have K010 := hid (show Kp (fun g => g = B ∨ g = S ∨ g = M ∨ OfP p1 g ∨ OfP p2 g) w V10 from (K08.out.trans (Kp.of (fun _ => False) B9.out) (fun _ _ h => h.elim)).trans K10.out (fun g hg h => by
    rcases h with h | h
    · have := (hv1 g h).1; omega
    · have := (hv2 g h).1; omega))
  have HR10 := hid (show Rl V10 b1 d1 M1 ∧ Rl V10 b2 d2 M2 from ⟨HRB1.out V10 (fun g hg => K010.out.obj g (by omega) (fun h => by have := HPN.out g h; omega)), HRB2.out V10 (fun g hg => K010.out.obj g (by omega) (fun h => by have := HPN.out g h; omega))⟩)
  have LR := hid (show (∀ g, OfP r1 g → g < V10.heap.size) ∧ (∀ g, OfP r2 g → g < V10.heap.size) from HSU10.out.lt)
  have AP := hid (show (∀ g, OfP r1 g → ¬ OfP q1 g) ∧ (∀ g, OfP r1 g → ¬ OfP q2 g) ∧ (∀ g, OfP r2 g → ¬ OfP q1 g) ∧ (∀ g, OfP r2 g → ¬ OfP q2 g) from by
    have z : W7.drew.heap.size = W7.heap.size := rfl
    exact ⟨fr_apart HF3'.out (Fr.refl w.heap.size q1) lp.1 (fun g hg => by have := lq.1 g hg; omega) HX.out.a11, fr_apart HF3'.out (Fr.refl w.heap.size q2) lp.1 (fun g hg => by have := lq.2.1 g hg; omega) HX.out.a12, fr_apart HF4'.out (Fr.refl w.heap.size q1) lp.2 (fun g hg => by have := lq.1 g hg; omega) HX.out.a21, fr_apart HF4'.out (Fr.refl w.heap.size q2) lp.2 (fun g hg => by have := lq.2.1 g hg; omega) HX.out.a22⟩)
  have CT := hid (CTF.out V10 HRD10.out HR10.out.1 HR10.out.2)
  clear nv zq zq2 hv1 hv2 lp lq
  refine reg_cut (X := Nat × Option Addr × Nat × Option Addr × Nat × Option Addr × Nat) (fun a t => ((((((((((((a.put (some 57) (.pointer (some ⟨B, 0, none⟩))).put (some 58) (.pointer (some ⟨B, 0, none⟩))).put (some 59) (.pointer (some ⟨B, 1, none⟩))).put (some 60) (.agg #[.int .i64 hold, .int .u64 sq, .slice q1 n1 e1, .slice q2 n2 e2, .slice q3 n e3, .int .u64 gr, .int .u64 la.sq, .int .i64 la.kd, .int .i64 la.sd, .int .i64 la.pr, .int .u64 la.qt, .int .i64 la.ct])).put (some 61) (.pointer (some ⟨R, 8, none⟩))).put (some 62) (.agg #[.int .u64 ps, .slice b1 m1 d1, .slice b2 m2 d2])).put (some 63) (.tuple #[.agg #[.int .i64 hold, .int .u64 N.sq, .slice t.2.1 k1 t.2.2.1, .slice t.2.2.2.1 k2 t.2.2.2.2.1, .slice t.2.2.2.2.2.1 k3 t.2.2.2.2.2.2, .int .u64 N.gr, .int .u64 N.la.sq, .int .i64 N.la.kd, .int .i64 N.la.sd, .int .i64 N.la.pr, .int .u64 N.la.qt, .int .i64 N.la.ct], .int .i64 E])).put (some 56) (.tuple #[.agg #[.int .i64 hold, .int .u64 N.sq, .slice t.2.1 k1 t.2.2.1, .slice t.2.2.2.1 k2 t.2.2.2.2.1, .slice t.2.2.2.2.2.1 k3 t.2.2.2.2.2.2, .int .u64 N.gr, .int .u64 N.la.sq, .int .i64 N.la.kd, .int .i64 N.la.sd, .int .i64 N.la.pr, .int .u64 N.la.qt, .int .i64 N.la.ct], .int .i64 E])).put (some 64) (.agg #[.int .i64 hold, .int .u64 N.sq, .slice t.2.1 k1 t.2.2.1, .slice t.2.2.2.1 k2 t.2.2.2.2.1, .slice t.2.2.2.2.2.1 k3 t.2.2.2.2.2.2, .int .u64 N.gr, .int .u64 N.la.sq, .int .i64 N.la.kd, .int .i64 N.la.sd, .int .i64 N.la.pr, .int .u64 N.la.qt, .int .i64 N.la.ct])).put (some 65) (.int .i64 E)).put (some 10) (.pointer (some ⟨t.1, 0, none⟩))).put (some 11) (.int .i64 E))) (fun t V => Hid (V.heap[t.1]? = some (.cells #[.int .i64 hold, .int .u64 N.sq, .slice t.2.1 k1 t.2.2.1, .slice t.2.2.2.1 k2 t.2.2.2.2.1, .slice t.2.2.2.2.2.1 k3 t.2.2.2.2.2.2, .int .u64 N.gr, .int .u64 N.la.sq, .int .i64 N.la.kd, .int .i64 N.la.sd, .int .i64 N.la.pr, .int .u64 N.la.qt, .int .i64 N.la.ct] 57 (0, 0))) ∧ Hid (Rd V N t.2.1 t.2.2.1 t.2.2.2.1 t.2.2.2.2.1 t.2.2.2.2.2.1 t.2.2.2.2.2.2) ∧ Hid (Fr V10.heap.size q1 t.2.1) ∧ Hid (Fr V10.heap.size q2 t.2.2.2.1) ∧ Hid (Fr V10.heap.size q3 t.2.2.2.2.2.1) ∧ Hid (Below V10.heap.size V10 V)) ?_ ?_
  · obtain ⟨V32, hV32⟩ : ∃ U, V10.drew = U := ⟨_, rfl⟩
    have BV32 := hid (show Below V10.heap.size V10 V32 from by rw [← hV32]; exact bdrew1 _)
    have r33 := hid (row_on HROW10.out BV32.out)
    have r34 := hid (row_on HO10.out BV32.out)
    refine wp_region_held_drew (S := (fun U => U.cell? ⟨B, 1, none⟩ = some (.int .i64 hold) ∧ U.cell? ⟨B, 2, none⟩ = some (.int .u64 sq) ∧ U.cell? ⟨B, 3, none⟩ = some (.slice q1 n1 e1) ∧ U.cell? ⟨B, 4, none⟩ = some (.slice q2 n2 e2) ∧ U.cell? ⟨B, 5, none⟩ = some (.slice q3 n e3) ∧ U.cell? ⟨B, 6, none⟩ = some (.int .u64 gr) ∧ U.cell? ⟨B, 7, none⟩ = some (.int .u64 la.sq) ∧ U.cell? ⟨B, 8, none⟩ = some (.int .i64 la.kd) ∧ U.cell? ⟨B, 9, none⟩ = some (.int .i64 la.sd) ∧ U.cell? ⟨B, 10, none⟩ = some (.int .i64 la.pr) ∧ U.cell? ⟨B, 11, none⟩ = some (.int .u64 la.qt) ∧ U.cell? ⟨B, 12, none⟩ = some (.int .i64 la.ct) ∧ U.cell? ⟨R, 8, none⟩ = some (.int .u64 ps) ∧ U.cell? ⟨R, 9, none⟩ = some (.slice b1 m1 d1) ∧ U.cell? ⟨R, 10, none⟩ = some (.slice b2 m2 d2))) (by kernel_rfl) ?_ (fun hHeld => ?_)
    · (try dsimp only); rw [hV32]; exact ⟨row_cell r33.out 1, row_cell r33.out 2, row_cell r33.out 3, row_cell r33.out 4, row_cell r33.out 5, row_cell r33.out 6, row_cell r33.out 7, row_cell r33.out 8, row_cell r33.out 9, row_cell r33.out 10, row_cell r33.out 11, row_cell r33.out 12, row_cell r34.out 8, row_cell r34.out 9, row_cell r34.out 10⟩
    rw [hV32] at hHeld ⊢
    clear hV32
    refine' wpAnyH_take (i := 0) (oi := _) (v := _) rfl (by kernel_rfl) (by kernel_rfl) (by kernel_rfl) (fun _ _ _ h => h) (Or.inl ⟨by kernel_rfl, ?_⟩) (by assumption) ?_
    rotate_left
    · (intro w hSw; (try dsimp only at hSw); go_simp; try (with_reducible rfl))
    try simp only [List.getElem_toArray, List.getElem_cons_succ, List.getElem_cons_zero, Act.put, List.setIfInBounds_toArray, List.set_cons_zero, List.set_cons_succ]
    refine' wpAnyH_take (i := 1) (oi := _) (v := _) rfl (by kernel_rfl) (by kernel_rfl) (by kernel_rfl) (fun _ _ _ h => h) (Or.inl ⟨by kernel_rfl, ?_⟩) (by assumption) ?_
    rotate_left
    · (intro w hSw; (try dsimp only at hSw); go_simp; try (with_reducible rfl))
    try simp only [List.getElem_toArray, List.getElem_cons_succ, List.getElem_cons_zero, Act.put, List.setIfInBounds_toArray, List.set_cons_zero, List.set_cons_succ]
    refine' wpAnyH_take (i := 2) (oi := _) (v := _) rfl (by kernel_rfl) (by kernel_rfl) (by kernel_rfl) (fun _ _ _ h => h) (Or.inl ⟨by kernel_rfl, ?_⟩) (by assumption) ?_
    rotate_left
    · (intro w hSw; (try dsimp only at hSw); go_simp; try (with_reducible rfl))
    try simp only [List.getElem_toArray, List.getElem_cons_succ, List.getElem_cons_zero, Act.put, List.setIfInBounds_toArray, List.set_cons_zero, List.set_cons_succ]
    refine' wpAnyH_take (i := 3) (oi := _) (v := _) rfl (by kernel_rfl) (by kernel_rfl) (by kernel_rfl) (fun _ _ _ h => h) (Or.inl ⟨by kernel_rfl, ?_⟩) (by assumption) ?_
    rotate_left
    · (intro w hSw; (try dsimp only at hSw); go_simp; try (with_reducible rfl))
    try simp only [List.getElem_toArray, List.getElem_cons_succ, List.getElem_cons_zero, Act.put, List.setIfInBounds_toArray, List.set_cons_zero, List.set_cons_succ]
    refine' wpAnyH_take (i := 4) (oi := _) (v := _) rfl (by kernel_rfl) (by kernel_rfl) (by kernel_rfl) (fun _ _ _ h => h) (Or.inl ⟨by kernel_rfl, ?_⟩) (by assumption) ?_
    rotate_left
    · (intro w hSw; (try dsimp only at hSw); go_simp; try (with_reducible rfl))
    try simp only [List.getElem_toArray, List.getElem_cons_succ, List.getElem_cons_zero, Act.put, List.setIfInBounds_toArray, List.set_cons_zero, List.set_cons_succ]
    refine' wpAnyH_take (i := 5) (oi := _) (v := _) rfl (by kernel_rfl) (by kernel_rfl) (by kernel_rfl) (fun _ _ _ h => h) (Or.inl ⟨by kernel_rfl, ?_⟩) (by assumption) ?_
    rotate_left
    · (intro w hSw; (try dsimp only at hSw); go_simp; try (with_reducible rfl))
    try simp only [List.getElem_toArray, List.getElem_cons_succ, List.getElem_cons_zero, Act.put, List.setIfInBounds_toArray, List.set_cons_zero, List.set_cons_succ]
    refine wpAnyH_ready (rs := [6, 10]) (by kernel_rfl) (by simp) ?_
    refine (AllReadyH.cons (o := _) rfl (fun K hK => ?_) (AllReadyH.cons (o := _) rfl (fun K hK => ?_) AllReadyH.nil))
    · go_simp
      go_at_call 38
      with_reducible refine (CT.out V32 BV32.out).mono ?_
      rintro e X35 ⟨u1, g1, u2, g2, u3, g3, rfl, HRDX, HF1, HF2, HF3, DbX35⟩
      have r36 := hid (row_on r33.out DbX35.out)
      have r37 := hid (row_on r34.out DbX35.out)
      have DX35 := hid (btr BV32.out DbX35.out)
      have UX35 := hid (BV32.out.size)
      (try go_wp2_with fail)
      refine hK.out _ _ ?_ (fun hHeld => ?_)
      · (try dsimp only); exact ⟨row_cell r36.out 1, row_cell r36.out 2, row_cell r36.out 3, row_cell r36.out 4, row_cell r36.out 5, row_cell r36.out 6, row_cell r36.out 7, row_cell r36.out 8, row_cell r36.out 9, row_cell r36.out 10, row_cell r36.out 11, row_cell r36.out 12, row_cell r37.out 8, row_cell r37.out 9, row_cell r37.out 10⟩
      clear hK K
      try simp only [List.getElem_toArray, List.getElem_cons_succ, List.getElem_cons_zero, Act.put, List.setIfInBounds_toArray, List.set_cons_zero, List.set_cons_succ]
      refine' wpAnyH_take (i := 7) (oi := _) (v := _) rfl (by kernel_rfl) (by kernel_rfl) (by kernel_rfl) (fun _ _ _ h => h) (Or.inl ⟨by kernel_rfl, ?_⟩) (by assumption) ?_
      rotate_left
      · (intro w hSw; (try dsimp only at hSw); go_simp; try (with_reducible rfl))
      try simp only [List.getElem_toArray, List.getElem_cons_succ, List.getElem_cons_zero, Act.put, List.setIfInBounds_toArray, List.set_cons_zero, List.set_cons_succ]
      refine' wpAnyH_take (i := 8) (oi := _) (v := _) rfl (by kernel_rfl) (by kernel_rfl) (by kernel_rfl) (fun _ _ _ h => h) (Or.inl ⟨by kernel_rfl, ?_⟩) (by assumption) ?_
      rotate_left
      · (intro w hSw; (try dsimp only at hSw); go_simp; try (with_reducible rfl))
      try simp only [List.getElem_toArray, List.getElem_cons_succ, List.getElem_cons_zero, Act.put, List.setIfInBounds_toArray, List.set_cons_zero, List.set_cons_succ]
      refine' wpAnyH_take (i := 9) (oi := _) (v := _) rfl (by kernel_rfl) (by kernel_rfl) (by kernel_rfl) (fun _ _ _ h => h) (Or.inl ⟨by kernel_rfl, ?_⟩) (by assumption) ?_
      rotate_left
      · (intro w hSw; (try dsimp only at hSw); go_simp; try (with_reducible rfl))
      try simp only [List.getElem_toArray, List.getElem_cons_succ, List.getElem_cons_zero, Act.put, List.setIfInBounds_toArray, List.set_cons_zero, List.set_cons_succ]
      refine wpAnyH_ready (rs := [10]) (by kernel_rfl) (by simp) ?_
      refine (AllReadyH.cons (o := _) rfl (fun K hK => ?_) AllReadyH.nil)
      go_simp
      obtain ⟨X38, hX38⟩ : ∃ X, X35.alloc (.cells #[.int .i64 0, .int .u64 0, .slice none 0 0, .slice none 0 0, .slice none 0 0, .int .u64 0, .int .u64 0, .int .i64 0, .int .i64 0, .int .i64 0, .int .u64 0, .int .i64 0] 57) = X := ⟨_, rfl⟩
      have bX38 : Below X35.heap.size X35 X38 := by rw [← hX38]; exact ball _ _
      have r40 := hid (row_on r36.out bX38)
      have r41 := hid (row_on r37.out bX38)
      have e42 := hid (HRDX.out.on bX38)
      have DX38 := hid (btr DX35.out bX38)
      have zX38 : X38.heap[X35.heap.size]? = some (.cells #[.int .i64 0, .int .u64 0, .slice none 0 0, .slice none 0 0, .slice none 0 0, .int .u64 0, .int .u64 0, .int .i64 0, .int .i64 0, .int .i64 0, .int .u64 0, .int .i64 0] 57 (0, 0)) := by rw [← hX38]; exact World.alloc_heap_new _ _
      have yg39 := DX35.out.size
      obtain ⟨g39, hg39⟩ : ∃ g, X35.heap.size = g := ⟨_, rfl⟩
      have n43 : g39 ≠ B := by have := row_lt r36.out; omega
      have n44 : g39 ≠ R := by have := row_lt r37.out; omega
      rw [hg39] at zX38 yg39
      have ZX38 := hid zX38
      rw [hX38, hg39]
      clear hX38 hg39 zX38 bX38
      refine hK.out _ _ ?_ (fun hHeld => ?_)
      · (try dsimp only); exact ⟨row_cell r40.out 1, row_cell r40.out 2, row_cell r40.out 3, row_cell r40.out 4, row_cell r40.out 5, row_cell r40.out 6, row_cell r40.out 7, row_cell r40.out 8, row_cell r40.out 9, row_cell r40.out 10, row_cell r40.out 11, row_cell r40.out 12, row_cell r41.out 8, row_cell r41.out 9, row_cell r41.out 10⟩
      clear hK K
      try simp only [List.getElem_toArray, List.getElem_cons_succ, List.getElem_cons_zero, Act.put, List.setIfInBounds_toArray, List.set_cons_zero, List.set_cons_succ]
      refine wpAnyH_ready (rs := [11]) (by kernel_rfl) (by simp) ?_
      refine (AllReadyH.cons (o := _) rfl (fun K hK => ?_) AllReadyH.nil)
      refine step_store_row (by rfl) 57 (.tmp 10) (.tmp 64) (by rfl) g39 #[.int .i64 hold, .int .u64 N.sq, .slice u1 k1 g1, .slice u2 k2 g2, .slice u3 k3 g3, .int .u64 N.gr, .int .u64 N.la.sq, .int .i64 N.la.kd, .int .i64 N.la.sd, .int .i64 N.la.pr, .int .u64 N.la.qt, .int .i64 N.la.ct] (by rfl) (by rfl) 57 _ ZX38.out infoRS (by rfl) (by simp [Value.oneCell']) ?_
      obtain ⟨Y45, hY45⟩ : ∃ Y, X38.setRow g39 #[.int .i64 hold, .int .u64 N.sq, .slice u1 k1 g1, .slice u2 k2 g2, .slice u3 k3 g3, .int .u64 N.gr, .int .u64 N.la.sq, .int .i64 N.la.kd, .int .i64 N.la.sd, .int .i64 N.la.pr, .int .u64 N.la.qt, .int .i64 N.la.ct] = Y := ⟨_, rfl⟩
      have KY45 := hid (show Kp (fun j => j = g39) X38 Y45 from by rw [← hY45]; exact setRow_kp _ _ _)
      have AY45 := hid (show Y45.heap[g39]? = some (.cells #[.int .i64 hold, .int .u64 N.sq, .slice u1 k1 g1, .slice u2 k2 g2, .slice u3 k3 g3, .int .u64 N.gr, .int .u64 N.la.sq, .int .i64 N.la.kd, .int .i64 N.la.sd, .int .i64 N.la.pr, .int .u64 N.la.qt, .int .i64 N.la.ct] 57 (0, 0)) from by rw [← hY45]; exact setRow_heap X38 g39 _ _ 57 (0, 0) ZX38.out)
      have DY45 := hid (show Below V10.heap.size V10 Y45 from by rw [← hY45]; exact setRow_below DX38.out yg39)
      have r46 := hid (KY45.out.row r40.out (fun e => n43.symm e))
      have r47 := hid (KY45.out.row r41.out (fun e => n44.symm e))
      have e48 := hid (e42.out.tyK KY45.out (fun j h => h) ZX38.out (by decide) (by decide))
      rw [hY45]
      refine hK.out _ _ ?_ (fun hHeld => ?_)
      · (try dsimp only); exact ⟨row_cell r46.out 1, row_cell r46.out 2, row_cell r46.out 3, row_cell r46.out 4, row_cell r46.out 5, row_cell r46.out 6, row_cell r46.out 7, row_cell r46.out 8, row_cell r46.out 9, row_cell r46.out 10, row_cell r46.out 11, row_cell r46.out 12, row_cell r47.out 8, row_cell r47.out 9, row_cell r47.out 10⟩
      clear hK K hY45
      try simp only [List.getElem_toArray, List.getElem_cons_succ, List.getElem_cons_zero, Act.put, List.setIfInBounds_toArray, List.set_cons_zero, List.set_cons_succ]
      refine' wpAnyH_take (i := 12) (oi := _) (v := _) rfl (by kernel_rfl) (by kernel_rfl) (by kernel_rfl) (fun _ _ _ h => h) (Or.inl ⟨by kernel_rfl, ?_⟩) (by assumption) ?_
      rotate_left
      · (intro w hSw; (try dsimp only at hSw); go_simp; try (with_reducible rfl))
      try simp only [List.getElem_toArray, List.getElem_cons_succ, List.getElem_cons_zero, Act.put, List.setIfInBounds_toArray, List.set_cons_zero, List.set_cons_succ]
      refine wpAnyH_done (by kernel_rfl) ?_ _
      exact ⟨(g39, u1, g1, u2, g2, u3, g3), by kernel_rfl, AY45, e48, HF1, HF2, HF3, DY45⟩
    · go_simp
      obtain ⟨X49, hX49⟩ : ∃ X, V32.alloc (.cells #[.int .i64 0, .int .u64 0, .slice none 0 0, .slice none 0 0, .slice none 0 0, .int .u64 0, .int .u64 0, .int .i64 0, .int .i64 0, .int .i64 0, .int .u64 0, .int .i64 0] 57) = X := ⟨_, rfl⟩
      have bX49 : Below V32.heap.size V32 X49 := by rw [← hX49]; exact ball _ _
      have r51 := hid (row_on r33.out bX49)
      have r52 := hid (row_on r34.out bX49)
      have DX49 := hid (btr BV32.out bX49)
      have zX49 : X49.heap[V32.heap.size]? = some (.cells #[.int .i64 0, .int .u64 0, .slice none 0 0, .slice none 0 0, .slice none 0 0, .int .u64 0, .int .u64 0, .int .i64 0, .int .i64 0, .int .i64 0, .int .u64 0, .int .i64 0] 57 (0, 0)) := by rw [← hX49]; exact World.alloc_heap_new _ _
      have yg50 := BV32.out.size
      obtain ⟨g50, hg50⟩ : ∃ g, V32.heap.size = g := ⟨_, rfl⟩
      have n53 : g50 ≠ B := by have := row_lt r33.out; omega
      have n54 : g50 ≠ R := by have := row_lt r34.out; omega
      rw [hg50] at zX49 yg50
      have ZX49 := hid zX49
      rw [hX49, hg50]
      clear hX49 hg50 zX49 bX49
      refine hK.out _ _ ?_ (fun hHeld => ?_)
      · (try dsimp only); exact ⟨row_cell r51.out 1, row_cell r51.out 2, row_cell r51.out 3, row_cell r51.out 4, row_cell r51.out 5, row_cell r51.out 6, row_cell r51.out 7, row_cell r51.out 8, row_cell r51.out 9, row_cell r51.out 10, row_cell r51.out 11, row_cell r51.out 12, row_cell r52.out 8, row_cell r52.out 9, row_cell r52.out 10⟩
      clear hK K
      try simp only [List.getElem_toArray, List.getElem_cons_succ, List.getElem_cons_zero, Act.put, List.setIfInBounds_toArray, List.set_cons_zero, List.set_cons_succ]
      refine wpAnyH_ready (rs := [6]) (by kernel_rfl) (by simp) ?_
      refine (AllReadyH.cons (o := _) rfl (fun K hK => ?_) AllReadyH.nil)
      go_simp
      go_at_call 38
      with_reducible refine (CT.out X49 DX49.out).mono ?_
      rintro e X55 ⟨u1, g1, u2, g2, u3, g3, rfl, HRDX, HF1, HF2, HF3, DbX55⟩
      have r56 := hid (row_on r51.out DbX55.out)
      have r57 := hid (row_on r52.out DbX55.out)
      have r58 := hid (row_on ZX49.out DbX55.out)
      have DX55 := hid (btr DX49.out DbX55.out)
      have UX55 := hid (DX49.out.size)
      (try go_wp2_with fail)
      refine hK.out _ _ ?_ (fun hHeld => ?_)
      · (try dsimp only); exact ⟨row_cell r56.out 1, row_cell r56.out 2, row_cell r56.out 3, row_cell r56.out 4, row_cell r56.out 5, row_cell r56.out 6, row_cell r56.out 7, row_cell r56.out 8, row_cell r56.out 9, row_cell r56.out 10, row_cell r56.out 11, row_cell r56.out 12, row_cell r57.out 8, row_cell r57.out 9, row_cell r57.out 10⟩
      clear hK K
      try simp only [List.getElem_toArray, List.getElem_cons_succ, List.getElem_cons_zero, Act.put, List.setIfInBounds_toArray, List.set_cons_zero, List.set_cons_succ]
      refine' wpAnyH_take (i := 7) (oi := _) (v := _) rfl (by kernel_rfl) (by kernel_rfl) (by kernel_rfl) (fun _ _ _ h => h) (Or.inl ⟨by kernel_rfl, ?_⟩) (by assumption) ?_
      rotate_left
      · (intro w hSw; (try dsimp only at hSw); go_simp; try (with_reducible rfl))
      try simp only [List.getElem_toArray, List.getElem_cons_succ, List.getElem_cons_zero, Act.put, List.setIfInBounds_toArray, List.set_cons_zero, List.set_cons_succ]
      refine' wpAnyH_take (i := 8) (oi := _) (v := _) rfl (by kernel_rfl) (by kernel_rfl) (by kernel_rfl) (fun _ _ _ h => h) (Or.inl ⟨by kernel_rfl, ?_⟩) (by assumption) ?_
      rotate_left
      · (intro w hSw; (try dsimp only at hSw); go_simp; try (with_reducible rfl))
      try simp only [List.getElem_toArray, List.getElem_cons_succ, List.getElem_cons_zero, Act.put, List.setIfInBounds_toArray, List.set_cons_zero, List.set_cons_succ]
      refine' wpAnyH_take (i := 9) (oi := _) (v := _) rfl (by kernel_rfl) (by kernel_rfl) (by kernel_rfl) (fun _ _ _ h => h) (Or.inl ⟨by kernel_rfl, ?_⟩) (by assumption) ?_
      rotate_left
      · (intro w hSw; (try dsimp only at hSw); go_simp; try (with_reducible rfl))
      try simp only [List.getElem_toArray, List.getElem_cons_succ, List.getElem_cons_zero, Act.put, List.setIfInBounds_toArray, List.set_cons_zero, List.set_cons_succ]
      refine wpAnyH_ready (rs := [11]) (by kernel_rfl) (by simp) ?_
      refine (AllReadyH.cons (o := _) rfl (fun K hK => ?_) AllReadyH.nil)
      refine step_store_row (by rfl) 57 (.tmp 10) (.tmp 64) (by rfl) g50 #[.int .i64 hold, .int .u64 N.sq, .slice u1 k1 g1, .slice u2 k2 g2, .slice u3 k3 g3, .int .u64 N.gr, .int .u64 N.la.sq, .int .i64 N.la.kd, .int .i64 N.la.sd, .int .i64 N.la.pr, .int .u64 N.la.qt, .int .i64 N.la.ct] (by rfl) (by rfl) 57 _ r58.out infoRS (by rfl) (by simp [Value.oneCell']) ?_
      obtain ⟨Y59, hY59⟩ : ∃ Y, X55.setRow g50 #[.int .i64 hold, .int .u64 N.sq, .slice u1 k1 g1, .slice u2 k2 g2, .slice u3 k3 g3, .int .u64 N.gr, .int .u64 N.la.sq, .int .i64 N.la.kd, .int .i64 N.la.sd, .int .i64 N.la.pr, .int .u64 N.la.qt, .int .i64 N.la.ct] = Y := ⟨_, rfl⟩
      have KY59 := hid (show Kp (fun j => j = g50) X55 Y59 from by rw [← hY59]; exact setRow_kp _ _ _)
      have AY59 := hid (show Y59.heap[g50]? = some (.cells #[.int .i64 hold, .int .u64 N.sq, .slice u1 k1 g1, .slice u2 k2 g2, .slice u3 k3 g3, .int .u64 N.gr, .int .u64 N.la.sq, .int .i64 N.la.kd, .int .i64 N.la.sd, .int .i64 N.la.pr, .int .u64 N.la.qt, .int .i64 N.la.ct] 57 (0, 0)) from by rw [← hY59]; exact setRow_heap X55 g50 _ _ 57 (0, 0) r58.out)
      have DY59 := hid (show Below V10.heap.size V10 Y59 from by rw [← hY59]; exact setRow_below DX55.out yg50)
      have r60 := hid (KY59.out.row r56.out (fun e => n53.symm e))
      have r61 := hid (KY59.out.row r57.out (fun e => n54.symm e))
      have e62 := hid (HRDX.out.tyK KY59.out (fun j h => h) r58.out (by decide) (by decide))
      rw [hY59]
      refine hK.out _ _ ?_ (fun hHeld => ?_)
      · (try dsimp only); exact ⟨row_cell r60.out 1, row_cell r60.out 2, row_cell r60.out 3, row_cell r60.out 4, row_cell r60.out 5, row_cell r60.out 6, row_cell r60.out 7, row_cell r60.out 8, row_cell r60.out 9, row_cell r60.out 10, row_cell r60.out 11, row_cell r60.out 12, row_cell r61.out 8, row_cell r61.out 9, row_cell r61.out 10⟩
      clear hK K hY59
      try simp only [List.getElem_toArray, List.getElem_cons_succ, List.getElem_cons_zero, Act.put, List.setIfInBounds_toArray, List.set_cons_zero, List.set_cons_succ]
      refine' wpAnyH_take (i := 12) (oi := _) (v := _) rfl (by kernel_rfl) (by kernel_rfl) (by kernel_rfl) (fun _ _ _ h => h) (Or.inl ⟨by kernel_rfl, ?_⟩) (by assumption) ?_
      rotate_left
      · (intro w hSw; (try dsimp only at hSw); go_simp; try (with_reducible rfl))
      try simp only [List.getElem_toArray, List.getElem_cons_succ, List.getElem_cons_zero, Act.put, List.setIfInBounds_toArray, List.set_cons_zero, List.set_cons_succ]
      refine wpAnyH_done (by kernel_rfl) ?_ _
      exact ⟨(g50, u1, g1, u2, g2, u3, g3), by kernel_rfl, AY59, e62, HF1, HF2, HF3, DY59⟩
  · rintro ⟨blk, u1, g1, u2, g2, u3, g3⟩ V ⟨HC, HRD, HF1, HF2, HF3, BWV⟩
    dsimp only at HC HRD HF1 HF2 HF3
    try simp only [List.getElem_toArray, List.getElem_cons_succ, List.getElem_cons_zero, Act.put, List.setIfInBounds_toArray, List.set_cons_zero, List.set_cons_succ]
    clear CT
    have TH := hid (row_there (row_on HROW10.out BWV.out) 1 12 (by simp))
    obtain ⟨z0, z1, z2, z3, z4, z5, z6, z7, z8, z9, z10, z11⟩ := row12c HC.out
    go_upto_region 13 with (refine wpList_store_mid (by rfl) 57 (.tmp 69) (.tmp 67) (by rfl) B 1 #[.int .i64 hold, .int .u64 N.sq, .slice u1 k1 g1, .slice u2 k2 g2, .slice u3 k3 g3, .int .u64 N.gr, .int .u64 N.la.sq, .int .i64 N.la.kd, .int .i64 N.la.sd, .int .i64 N.la.pr, .int .u64 N.la.qt, .int .i64 N.la.ct] (by rfl) (by rfl) TH.out infoRS (by simp [Value.oneCell']) ?_)
    obtain ⟨V1, hV1⟩ : ∃ V1, V.setCells B 1 #[.int .i64 hold, .int .u64 N.sq, .slice u1 k1 g1, .slice u2 k2 g2, .slice u3 k3 g3, .int .u64 N.gr, .int .u64 N.la.sq, .int .i64 N.la.kd, .int .i64 N.la.sd, .int .i64 N.la.pr, .int .u64 N.la.qt, .int .i64 N.la.ct].toList = V1 := ⟨_, rfl⟩
    have KV1 := hid (show Kp (fun g => g = B) V V1 from by rw [← hV1]; exact setCells_kp B _ _ _)
    have HROW1 := hid (show V1.heap[B]? = some (.cells #[.pointer (some ⟨S, 0, none⟩), .int .i64 hold, .int .u64 N.sq, .slice u1 k1 g1, .slice u2 k2 g2, .slice u3 k3 g3, .int .u64 N.gr, .int .u64 N.la.sq, .int .i64 N.la.kd, .int .i64 N.la.sd, .int .i64 N.la.pr, .int .u64 N.la.qt, .int .i64 N.la.ct] 62 (0, 0)) from by
      rw [← hV1, ← spl13 (.pointer (some ⟨S, 0, none⟩)) (.int .i64 hold) (.int .u64 sq) (.slice q1 n1 e1) (.slice q2 n2 e2) (.slice q3 n e3) (.int .u64 gr) (.int .u64 la.sq) (.int .i64 la.kd) (.int .i64 la.sd) (.int .i64 la.pr) (.int .u64 la.qt) (.int .i64 la.ct) (.int .i64 hold) (.int .u64 N.sq) (.slice u1 k1 g1) (.slice u2 k2 g2) (.slice u3 k3 g3) (.int .u64 N.gr) (.int .u64 N.la.sq) (.int .i64 N.la.kd) (.int .i64 N.la.sd) (.int .i64 N.la.pr) (.int .u64 N.la.qt) (.int .i64 N.la.ct)]
      exact setCells_row _ 1 _ _ (row_on HROW10.out BWV.out))
    try rw [hV1]
    clear hV1 z0 z1 z2 z3 z4 z5 z6 z7 z8 z9 z10 z11
    have HSU := hid ((HSU10.out.on BWV.out).tyK KV1.out (fun j h => h) (row_on HROW10.out BWV.out) (by decide) (by decide))
    have HRD1 := hid (HRD.out.tyK KV1.out (fun j h => h) (row_on HROW10.out BWV.out) (by decide) (by decide))
    go_wp2
    go_ret
    have z10 := K010.out.size
    have z : W7.drew.heap.size = W7.heap.size := rfl
    refine ⟨rfl, nm, r1, f1, r2, f2, u1, g1, u2, g2, u3, g3, by omega, ⟨by rw [HK1.out, HK2.out, HK3.out]; exact HROW1.out, HSU.out, HRD1.out, HNG.out, fr_apart2 LR.out.1 HF1.out AP.out.1, fr_apart2 LR.out.1 HF2.out AP.out.2.1, fr_apart2 LR.out.2 HF1.out AP.out.2.2.1, fr_apart2 LR.out.2 HF2.out AP.out.2.2.2⟩, ?_, HF3'.out.mono (by omega), HF4'.out.mono (by omega), HF1.out.mono z10, HF2.out.mono z10, HF3.out.mono z10⟩
    exact (K010.out.trans (Kp.of (fun _ => False) BWV.out) (fun _ _ h => h.elim)).trans KV1.out (fun _ _ h => .inl h)
theorem step_tell {w : World} {B S M nm hold : Nat} {s : Ss} {p1 p2 q1 q2 q3 : Option Addr} {c1 c2 e1 e2 e3 : Nat} (h : Px w B S M nm hold s p1 c1 p2 c2 q1 e1 q2 e2 q3 e3) (hh : hold ≤ 1024) (ot : Bool) (d : Dm) (ps : Int) (b1 b2 : Option Addr) (m1 d1 m2 d2 : Nat) (kd : Int) (hkd : kd = 2) :
    Calls Try.prog 19 #[.pointer (some ⟨B, 0, none⟩), .agg #[.int .i64 kd, .bool ot, .int .u64 d.sq, .int .i64 d.kd, .int .i64 d.sd, .int .i64 d.pr, .int .u64 d.qt, .int .i64 d.ct, .int .u64 ps, .slice b1 m1 d1, .slice b2 m2 d2]] w fun e w' => e = .returned (.bool true) ∧ Pn w B S M (nm + 1) hold s p1 p2 q1 q2 q3 w' := by
  obtain ⟨R, hR⟩ : ∃ R, w.heap.size = R := ⟨_, rfl⟩
  obtain ⟨W, hW⟩ : ∃ W, w.alloc (.cells #[.int .i64 kd, .bool ot, .int .u64 d.sq, .int .i64 d.kd, .int .i64 d.sd, .int .i64 d.pr, .int .u64 d.qt, .int .i64 d.ct, .int .u64 ps, .slice b1 m1 d1, .slice b2 m2 d2] 64) = W := ⟨_, rfl⟩
  have hb0 : Below w.heap.size w W := by rw [← hW]; exact ball _ _
  have HO := hid (show W.heap[R]? = some (.cells #[.int .i64 kd, .bool ot, .int .u64 d.sq, .int .i64 d.kd, .int .i64 d.sd, .int .i64 d.pr, .int .u64 d.qt, .int .i64 d.ct, .int .u64 ps, .slice b1 m1 d1, .slice b2 m2 d2] 64 (0, 0)) from by rw [← hW, ← hR]; exact World.alloc_heap_new _ _)
  have C := hid (tells_any (h.on hb0) hh)
  have HX := hid h
  have HB := hid hb0
  have HW := hid hW
  have HR := hid hR
  have o0 := row_cell HO.out 0
  subst hkd
  clear h hW hR hb0
  go_enter Try.func19, Try.ntmps19
  go_upto_region 1 with fail
  rw [HW.out, HR.out]
  go_wp2_with (go_at_call 20; (with_reducible refine (C.out).mono ?_); rintro e V ⟨rfl, hb⟩; have BV := hid (btr HB.out hb); clear hb)
  go_ret
  exact ⟨rfl, Pn.same HX.out BV.out⟩
theorem step_none {w : World} {B S M nm hold : Nat} {s : Ss} {p1 p2 q1 q2 q3 : Option Addr} {c1 c2 e1 e2 e3 : Nat} (h : Px w B S M nm hold s p1 c1 p2 c2 q1 e1 q2 e2 q3 e3) (hh : hold ≤ 1024) (ot : Bool) (d : Dm) (ps : Int) (b1 b2 : Option Addr) (m1 d1 m2 d2 : Nat) (kd : Int) (h0 : kd ≠ 0) (h1 : kd ≠ 1) (h2 : kd ≠ 2) :
    Calls Try.prog 19 #[.pointer (some ⟨B, 0, none⟩), .agg #[.int .i64 kd, .bool ot, .int .u64 d.sq, .int .i64 d.kd, .int .i64 d.sd, .int .i64 d.pr, .int .u64 d.qt, .int .i64 d.ct, .int .u64 ps, .slice b1 m1 d1, .slice b2 m2 d2]] w fun e w' => e = .returned (.bool true) ∧ Pn w B S M (nm + 1) hold s p1 p2 q1 q2 q3 w' := by
  obtain ⟨R, hR⟩ : ∃ R, w.heap.size = R := ⟨_, rfl⟩
  obtain ⟨W, hW⟩ : ∃ W, w.alloc (.cells #[.int .i64 kd, .bool ot, .int .u64 d.sq, .int .i64 d.kd, .int .i64 d.sd, .int .i64 d.pr, .int .u64 d.qt, .int .i64 d.ct, .int .u64 ps, .slice b1 m1 d1, .slice b2 m2 d2] 64) = W := ⟨_, rfl⟩
  have hb0 : Below w.heap.size w W := by rw [← hW]; exact ball _ _
  have HO := hid (show W.heap[R]? = some (.cells #[.int .i64 kd, .bool ot, .int .u64 d.sq, .int .i64 d.kd, .int .i64 d.sd, .int .i64 d.pr, .int .u64 d.qt, .int .i64 d.ct, .int .u64 ps, .slice b1 m1 d1, .slice b2 m2 d2] 64 (0, 0)) from by rw [← hW, ← hR]; exact World.alloc_heap_new _ _)
  have HX := hid h
  have HB := hid hb0
  have HW := hid hW
  have HR := hid hR
  have o0 := row_cell HO.out 0
  have t0 : (kd == 0) = false := by simpa using h0
  have t1 : (kd == 1) = false := by simpa using h1
  have t2 : (kd == 2) = false := by simpa using h2
  clear h hW hR hb0 h0 h1 h2
  go_enter Try.func19, Try.ntmps19
  go_upto_region 1 with fail
  rw [HW.out, HR.out]
  go_wp2
  go_ret
  exact ⟨rfl, Pn.same HX.out HB.out⟩
/-- what a step makes of a state. -/
def stS (hold : Nat) (s : Ss) (kd : Int) (d : Dm) (ps : Int) (M1 M2 : List Lv) : Ss := if kd = 0 then tkS hold s d else if kd = 1 then rcS s ps M1 M2 else s
theorem step_any {w : World} {B S M nm hold : Nat} {s : Ss} {p1 p2 q1 q2 q3 : Option Addr} {c1 c2 e1 e2 e3 : Nat} (h : Px w B S M nm hold s p1 c1 p2 c2 q1 e1 q2 e2 q3 e3) (hh : hold ≤ 1024) (ot : Bool) (d : Dm) (hq : 0 ≤ d.sq ∧ d.sq < 18446744073709551616) (hnm : nm < maxLen) (ps : Int) (hps : 0 ≤ ps ∧ ps < 18446744073709551616) (b1 b2 : Option Addr) (m1 d1 m2 d2 : Nat) (M1 M2 : List Lv) (hm1 : M1.length = m1) (hm2 : M2.length = m2) (lb1 : m1 * 24 + 24 ≤ 140737488355328) (lb2 : m2 * 24 + 24 ≤ 140737488355328) (n0 : Nat) (hn0 : n0 ≤ w.heap.size) (hB1 : ∀ U : World, (∀ g, g < n0 → U.heap[g]? = w.heap[g]?) → Rl U b1 d1 M1) (hB2 : ∀ U : World, (∀ g, g < n0 → U.heap[g]? = w.heap[g]?) → Rl U b2 d2 M2) (hpn : ∀ g, (g = B ∨ g = S ∨ g = M ∨ OfP p1 g ∨ OfP p2 g) → n0 ≤ g) (kd : Int) :
    Calls Try.prog 19 #[.pointer (some ⟨B, 0, none⟩), .agg #[.int .i64 kd, .bool ot, .int .u64 d.sq, .int .i64 d.kd, .int .i64 d.sd, .int .i64 d.pr, .int .u64 d.qt, .int .i64 d.ct, .int .u64 ps, .slice b1 m1 d1, .slice b2 m2 d2]] w fun e w' => e = .returned (.bool true) ∧ Pn w B S M (nm + 1) hold (stS hold s kd d ps M1 M2) p1 p2 q1 q2 q3 w' := by
  unfold stS
  by_cases h0 : kd = 0
  · rw [if_pos h0]
    exact step_take h hh ot d hq hnm ps b1 b2 m1 d1 m2 d2 kd h0
  · rw [if_neg h0]
    by_cases h1 : kd = 1
    · rw [if_pos h1]
      exact step_rec h hh ot d ps hps b1 b2 m1 d1 m2 d2 M1 M2 hm1 hm2 lb1 lb2 n0 hn0 hB1 hB2 hpn kd h1
    · rw [if_neg h1]
      by_cases h2 : kd = 2
      · exact step_tell h hh ot d ps b1 b2 m1 d1 m2 d2 kd h2
      · exact step_none h hh ot d ps b1 b2 m1 d1 m2 d2 kd h0 h1 h2
end Go.Proofs.Ytiphgfghdbmlcaa
