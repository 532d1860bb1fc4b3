/-
  BitmapAll's walk.
-/
import Derived.Test.YtcbfgodknonefaaDoorBoC
namespace Go.Proofs.YtcbfgodknonefaaDoor
open Go.RowKit Go.Deep Bt
set_option linter.unusedVariables false
set_option maxRecDepth 100000
set_option maxHeartbeats 8000000

theorem ask_other (k : Int) (hk : ¬ (2 ≤ k ∧ k ≤ 10)) (b : Nat) (p : Option Addr) (n cap : Nat) (x1 x2 A B : Int) (w : World) :
    Calls Tryd.prog 17 #[.agg #[.pointer (some ⟨b, 0, none⟩), .slice p n cap], .agg #[.int .i64 k, .int .i64 x1, .int .i64 x2, .int .i64 A, .int .i64 B]] w fun e w' => e = .returned (.bool true) ∧ Below w.heap.size w w' := by
  have e2 : (k == 2) = false := by simp; omega
  have e3 : (k == 3) = false := by simp; omega
  have e4 : (k == 4) = false := by simp; omega
  have e5 : (k == 5) = false := by simp; omega
  have e6 : (k == 6) = false := by simp; omega
  have e7 : (k == 7) = false := by simp; omega
  have e8 : (k == 8) = false := by simp; omega
  have e9 : (k == 9) = false := by simp; omega
  have e10 : (k == 10) = false := by simp; omega
  have hb : Below w.heap.size w ((w.alloc (.cells #[.pointer (some ⟨b, 0, none⟩), .slice p n cap] 32)).alloc (.cells #[.int .i64 k, .int .i64 x1, .int .i64 x2, .int .i64 A, .int .i64 B] 35)) := ((Below.refl _ w).alloc (Nat.le_refl _) _).alloc (by simp) _
  have HB := hid hb
  clear hk hb
  go_enter Tryd.func17, Tryd.ntmps17
  go_wp2_with fail
  go_ret
  exact ⟨rfl, HB.out⟩
/-- an operation. -/
structure OpV where
  k : Int
  x1 : Int
  x2 : Int
  A : Int
  B : Int
def orow (x : OpV) : Array Value := #[.int .i64 x.k, .int .i64 x.x1, .int .i64 x.x2, .int .i64 x.A, .int .i64 x.B]
def Opz (W : World) (q : Option Addr) (l : List OpV) : Prop := ∀ i (h : i < l.length), ∃ b off, q = some ⟨b, off, none⟩ ∧ b < W.heap.size ∧ ∀ j, j < 5 → W.cell? ⟨b, off + i * 5 + j, none⟩ = (orow l[i])[j]?
/-- what stands in a round. -/
structure Rd (w : World) (X : Nat) (F : Nat → Pr) (O : Nat) (x : OpV) (W : World) : Prop where
  aw : Aw w X F W
  o : W.heap[O]? = some (.cells (orow x) 35 (0, 0))
theorem Rd.step {w : World} {X : Nat} {F : Nat → Pr} {O : Nat} {x : OpV} {W W' : World} (h : Rd w X F O x W) (hb : Below W.heap.size W W') : Rd w X F O x W' := ⟨h.aw.step hb, (hb.block O (Array.getElem?_eq_some_iff.1 h.o).1).trans h.o⟩
theorem Rd.drew {w : World} {X : Nat} {F : Nat → Pr} {O : Nat} {x : OpV} {W : World} (h : Rd w X F O x W) : Rd w X F O x W.drew := h.step (below_drews rfl rfl rfl rfl)
theorem Rd.ops {w : World} {X : Nat} {F : Nat → Pr} {O : Nat} {x : OpV} {W : World} (h : Rd w X F O x W) : W.cell? ⟨O, 0, none⟩ = some (.int .i64 x.k) ∧ W.cell? ⟨O, 1, none⟩ = some (.int .i64 x.x1) ∧ W.cell? ⟨O, 2, none⟩ = some (.int .i64 x.x2) ∧ W.cell? ⟨O, 3, none⟩ = some (.int .i64 x.A) ∧ W.cell? ⟨O, 4, none⟩ = some (.int .i64 x.B) := ⟨row_cell h.o 0, row_cell h.o 1, row_cell h.o 2, row_cell h.o 3, row_cell h.o 4⟩
theorem aw_new (w : World) (F0 : Nat → Pr) (hF : F0 = fun i => ⟨w.heap.size + i, emp, none, 0, []⟩) : Aw w (w.heap.size + 3) F0 ((((w.alloc (.cells zrow 28)).alloc (.cells zrow 28)).alloc (.cells zrow 28)).alloc (.cells (rowX F0) 33)) := by
  have s1 : (w.alloc (.cells zrow 28)).heap.size = w.heap.size + 1 := by simp
  have s2 : ((w.alloc (.cells zrow 28)).alloc (.cells zrow 28)).heap.size = w.heap.size + 2 := by simp
  have s3 : (((w.alloc (.cells zrow 28)).alloc (.cells zrow 28)).alloc (.cells zrow 28)).heap.size = w.heap.size + 3 := by simp
  have hb : Below w.heap.size w ((((w.alloc (.cells zrow 28)).alloc (.cells zrow 28)).alloc (.cells zrow 28)).alloc (.cells (rowX F0) 33)) := ((((Below.refl _ w).alloc (Nat.le_refl _) _).alloc (by simp) _).alloc (by simp; omega) _).alloc (by simp; omega) _
  have hrow := World.alloc_heap_new (((w.alloc (.cells zrow 28)).alloc (.cells zrow 28)).alloc (.cells zrow 28)) (.cells (rowX F0) 33)
  rw [s3] at hrow
  have m0 : Bm ((((w.alloc (.cells zrow 28)).alloc (.cells zrow 28)).alloc (.cells zrow 28)).alloc (.cells (rowX F0) 33)) w.heap.size emp :=
    (((Bm.new w).same (Below.heap_alloc _ _ _ (by simp))).same (Below.heap_alloc _ _ _ (by simp <;> omega))).same (Below.heap_alloc _ _ _ (by simp <;> omega))
  have m1 : Bm ((((w.alloc (.cells zrow 28)).alloc (.cells zrow 28)).alloc (.cells zrow 28)).alloc (.cells (rowX F0) 33)) (w.heap.size + 1) emp := by
    have := Bm.new (w.alloc (.cells zrow 28))
    rw [s1] at this
    exact (this.same (Below.heap_alloc _ _ _ (by simp))).same (Below.heap_alloc _ _ _ (by simp <;> omega))
  have m2 : Bm ((((w.alloc (.cells zrow 28)).alloc (.cells zrow 28)).alloc (.cells zrow 28)).alloc (.cells (rowX F0) 33)) (w.heap.size + 2) emp := by
    have := Bm.new ((w.alloc (.cells zrow 28)).alloc (.cells zrow 28))
    rw [s2] at this
    exact this.same (Below.heap_alloc _ _ _ (by simp))
  subst hF
  refine ⟨hrow, fun i hi => tl_emp.symm, ?_, fun i hi j hj => (by simp at hj), fun i hi => .inl ⟨rfl, rfl, rfl⟩, fun i j hi hj e => (by show w.heap.size + i ≠ w.heap.size + j; omega), fun i hi => ⟨by show w.heap.size + i ≠ w.heap.size + 3; omega, by show w.heap.size ≤ w.heap.size + i; omega⟩, fun i hi g hg => (by cases hg), (by omega), hb⟩
  intro i hi
  obtain rfl | rfl | rfl : i = 0 ∨ i = 1 ∨ i = 2 := by omega
  · exact m0
  · exact m1
  · exact m2
theorem all_walk (q : Option Addr) (cap : Nat) (ops : List OpV) (w : World) (hO : Opz w q ops) (hL : Laid w) (h0 : 0 < w.heap.size) (hl : ops.length < 9223372036854775807) (hb : ∀ x ∈ ops, x.A < 9223372036854775808 ∧ x.B < 9223372036854775808) :
    Calls Tryd.prog 3 #[.slice q ops.length cap] w fun e w' => e = .returned (.bool true) ∧ Below w.heap.size w w' := by
  have hz := run_zero28
  obtain ⟨F0, hF0⟩ : ∃ F0 : Nat → Pr, F0 = fun i => ⟨w.heap.size + i, emp, none, 0, []⟩ := ⟨_, rfl⟩
  have AW0 := aw_new w F0 hF0
  have hrx : rowX F0 = #[.pointer (some ⟨w.heap.size, 0, none⟩), .slice none 0 0, .pointer (some ⟨w.heap.size + 1, 0, none⟩), .slice none 0 0, .pointer (some ⟨w.heap.size + 2, 0, none⟩), .slice none 0 0] := by subst hF0; rfl
  rw [hrx] at AW0
  have HA0 := hid AW0
  have HO := hid hO
  have HBD := hid hb
  have HLD := hid (show ∀ W, Below w.heap.size w W → Laid W from fun W hb => hL.on hb h0)
  have H0 := hid h0
  obtain ⟨n, hn⟩ : ∃ n, ops.length = n := ⟨_, rfl⟩
  rw [hn] at hl ⊢
  have HN := hid hn
  have b1 : (n : Int) < 9223372036854775807 := by omega
  clear hO hL h0 hl hb hn AW0 hrx hF0
  go_enter Tryd.func3, Tryd.ntmps3
  go_wp2_with fail
  obtain ⟨X, hX⟩ : ∃ X, w.heap.size + 3 = X := ⟨_, rfl⟩
  rw [hX] at HA0 ⊢
  clear hX
  go_loopw [4] (fun iv wr => ∃ (i : Nat) (F : Nat → Pr), i ≤ n ∧ iv = .int .i64 i ∧ Hid (Aw w X F wr)) (fun iv _ => n - (intOf iv).toNat)
  case atStart => exact ⟨0, F0, Nat.zero_le _, rfl, HA0⟩
  case round =>
    obtain ⟨i, F, hi, rfl, HF⟩ := hrel
    clear HA0
    by_cases hin : i = n
    · have hin' := hin.symm
      subst hin'
      have d1 : decide ((n : Int) < (n : Int)) = false := by simp
      have B1 := hid (show Below wr.heap.size wr (wr.alloc (.cells zrow 28)) from (Below.refl _ wr).alloc (Nat.le_refl _) _)
      have A1 := hid (HF.out.step B1.out)
      have L1 := hid (Bm.new wr)
      have AL := hid (show ∀ W' k, k < 3 → Aw w X F W' → Calls Tryd.prog 18 #[.agg #[.pointer (some ⟨(F k).b, 0, none⟩), .slice (F k).p (F k).l.length (F k).c]] W' fun e w' => e = .returned (.bool true) ∧ Below W'.heap.size W' w' from fun W' k hk hW => alike_any (F k).b (F k).S (F k).p (F k).c (F k).l (by rw [hW.tl k hk]; exact Tl.of _) W' (hW.bm k hk) (HLD.out _ hW.bel) (hW.lr k hk))
      have e1 : setI emp 70 = true := by decide
      have hin70 : insI emp 70 = ins emp 70 := by unfold insI; rw [if_pos (by decide)]; rfl
      have e2 : tp (insI emp 70) = 1 := by rw [hin70, tp_ins emp 70 (by decide), tp_emp]; rfl
      have e3 : loI (insI emp 70) 1 = 64 := by
        unfold loI
        rw [if_pos (by decide), hin70]
        have := lo_ins emp 70
        rw [lo_emp] at this
        exact this
      have ST := hid (show ∀ W', Bm W' wr.heap.size emp → Calls Tryd.prog 11 #[.pointer (some ⟨wr.heap.size, 0, none⟩), .int .i64 70] W' fun e w' => e = .returned (.bool true) ∧ Ko wr.heap.size W' w' ∧ Bm w' wr.heap.size (insI emp 70) from fun W' hB => by have := set_any wr.heap.size emp 70 W' hB; rw [e1] at this; exact this)
      have TP := hid (show ∀ W', Bm W' wr.heap.size (insI emp 70) → Calls Tryd.prog 19 #[.pointer (some ⟨wr.heap.size, 0, none⟩)] W' fun e w' => e = .returned (.int .u64 1) ∧ w' = W' from fun W' hB => by have := top_any wr.heap.size (insI emp 70) W' hB; rw [e2] at this; exact this)
      have LO := hid (show ∀ W', Bm W' wr.heap.size (insI emp 70) → Calls Tryd.prog 20 #[.pointer (some ⟨wr.heap.size, 0, none⟩), .int .i64 1] W' fun e w' => e = .returned (.int .u64 64) ∧ w' = W' from fun W' hB => by have := low_any wr.heap.size (insI emp 70) 1 W' hB; rw [e3] at this; exact this)
      have CE := hid (show ∀ W', Aw w X F W' → W'.cell? ⟨X, 0, none⟩ = some (.pointer (some ⟨(F 0).b, 0, none⟩)) ∧ W'.cell? ⟨X, 1, none⟩ = some (.slice (F 0).p (F 0).l.length (F 0).c) ∧ W'.cell? ⟨X, 2, none⟩ = some (.pointer (some ⟨(F 1).b, 0, none⟩)) ∧ W'.cell? ⟨X, 3, none⟩ = some (.slice (F 1).p (F 1).l.length (F 1).c) ∧ W'.cell? ⟨X, 4, none⟩ = some (.pointer (some ⟨(F 2).b, 0, none⟩)) ∧ W'.cell? ⟨X, 5, none⟩ = some (.slice (F 2).p (F 2).l.length (F 2).c) from fun W' hW => ⟨(hW.cells 0 (by omega)).1, (hW.cells 0 (by omega)).2, (hW.cells 1 (by omega)).1, (hW.cells 1 (by omega)).2, (hW.cells 2 (by omega)).1, (hW.cells 2 (by omega)).2⟩)
      have AL0 := hid (fun W' hW => AL.out W' 0 (by omega) hW)
      have AL1 := hid (fun W' hW => AL.out W' 1 (by omega) hW)
      have AL2 := hid (fun W' hW => AL.out W' 2 (by omega) hW)
      obtain ⟨z0, z1, z2, z3, z4, z5⟩ := CE.out _ A1.out
      clear e1 e2 e3 hin70 AL
      generalize hp0 : F 0 = P0 at *
      generalize hp1 : F 1 = P1 at *
      generalize hp2 : F 2 = P2 at *
      clear hi hin hp0 hp1 hp2
      go_wp2_with (first
        | (go_at_call 18; with_reducible refine (AL0.out _ A1.out).mono ?_; rintro e w5 ⟨rfl, g1⟩; clear AL0; have A2 := hid (A1.out.step g1); have L2 := hid (L1.out.on g1); obtain ⟨t0, t1, t2, t3, t4, t5⟩ := CE.out _ A2.out; clear g1)
        | (go_at_call 18; with_reducible refine (AL1.out _ A2.out).mono ?_; rintro e w6 ⟨rfl, g1⟩; clear AL1; have A3 := hid (A2.out.step g1); have L3 := hid (L2.out.on g1); obtain ⟨s0, s1, s2, s3, s4, s5⟩ := CE.out _ A3.out; clear g1)
        | (go_at_call 18; with_reducible refine (AL2.out _ A3.out).mono ?_; rintro e w7 ⟨rfl, g1⟩; clear AL2; have A4 := hid (A3.out.step g1); have L4 := hid (L3.out.on g1); clear g1)
        | (go_at_call 11; with_reducible refine (ST.out _ L4.out).mono ?_; rintro e w8 ⟨rfl, g1, g2⟩; clear ST; have L5 := hid g2; have B5 := hid (kobel A4.out.bel g1 (HF.out.bel.size) A4.out.bel.size); clear g1 g2)
        | (go_at_call 19; with_reducible refine (TP.out _ L5.out).mono ?_; rintro e w9 ⟨rfl, rfl⟩)
        | (go_at_call 20; with_reducible refine (LO.out _ L5.out).mono ?_; rintro e w9 ⟨rfl, rfl⟩))
      go_ret
      exact ⟨rfl, B5.out⟩
    · have hil : i < ops.length := by rw [HN.out]; omega
      obtain ⟨g, off, rfl, hgl, hcs⟩ := HO.out i hil
      obtain ⟨x, hx⟩ : ∃ x, ops[i] = x := ⟨_, rfl⟩
      have HXB := hid (show x.A < 9223372036854775808 ∧ x.B < 9223372036854775808 from by rw [← hx]; exact HBD.out _ (List.getElem_mem hil))
      rw [hx] at hcs
      have cc : ∀ j, j < 5 → wr.cell? ⟨g, off + i * 5 + j, none⟩ = (orow x)[j]? := fun j hj => by rw [HF.out.bel.cell (p := ⟨g, off + i * 5 + j, none⟩) hgl]; exact hcs j hj
      have c0 : wr.cell? ⟨g, off + i * 5, none⟩ = some (.int .i64 x.k) := cc 0 (by omega)
      have c1 : wr.cell? ⟨g, off + i * 5 + 1, none⟩ = some (.int .i64 x.x1) := cc 1 (by omega)
      have c2 : wr.cell? ⟨g, off + i * 5 + 2, none⟩ = some (.int .i64 x.x2) := cc 2 (by omega)
      have c3 : wr.cell? ⟨g, off + i * 5 + 3, none⟩ = some (.int .i64 x.A) := cc 3 (by omega)
      have c4 : wr.cell? ⟨g, off + i * 5 + 4, none⟩ = some (.int .i64 x.B) := cc 4 (by omega)
      have RD0 := hid (show Rd w X F wr.heap.size x (wr.alloc (.cells #[.int .i64 x.k, .int .i64 x.x1, .int .i64 x.x2, .int .i64 x.A, .int .i64 x.B] 35)) from ⟨HF.out.step ((Below.refl _ wr).alloc (Nat.le_refl _) _), World.alloc_heap_new _ _⟩)
      have f1 : (i : Int) < (n : Int) := by omega
      have f2 : (0 : Int) ≤ (i : Int) := by omega
      have ct : ((i : Int)).toNat = i := by omega
      have wj : IntKind.i64.wrap ((i : Int) + 1) = ((i + 1 : Nat) : Int) := by simp [IntKind.wrap, IntKind.bits, IntKind.signed]; omega
      have HJM := hid (show i + 1 ≤ n ∧ n - (i + 1) < n - i by omega)
      obtain ⟨j1, hj1⟩ : ∃ j1, i + 1 = j1 := ⟨_, rfl⟩
      rw [hj1] at wj HJM
      have AT1 := hid (fun W => atf_any x.x1 W)
      have AT2 := hid (fun W => atf_any x.x2 W)
      obtain ⟨kn, hkn⟩ : ∃ kn : Nat, x.x1 % 3 = (kn : Int) := ⟨(x.x1 % 3).toNat, by omega⟩
      obtain ⟨jn, hjn⟩ : ∃ jn : Nat, x.x2 % 3 = (jn : Int) := ⟨(x.x2 % 3).toNat, by omega⟩
      have hk3 : kn < 3 := by omega
      have hj3 : jn < 3 := by omega
      rw [hkn] at AT1
      rw [hjn] at AT2
      have HK3 := hid hk3
      have HJ3 := hid hj3
      have k1 : (kn : Int) < 3 := by omega
      have k2 : (0 : Int) ≤ (kn : Int) := by omega
      have kt : ((kn : Int)).toNat = kn := by omega
      have l1 : (jn : Int) < 3 := by omega
      have l2 : (0 : Int) ≤ (jn : Int) := by omega
      have lt : ((jn : Int)).toNat = jn := by omega
      obtain ⟨y0, y1, y2, y3, y4⟩ := RD0.out.drew.ops
      clear hi hin hil hgl hcs hx cc hkn hjn hk3 hj3 hj1 b1
      go_wp2_with fail
      rename_i K A
      have HK := hid A
      clear A
      go_region_held3 (fun w' => w'.cell? ⟨wr.heap.size, 1, none⟩ = some (.int .i64 x.x1) ∧ w'.cell? ⟨wr.heap.size, 2, none⟩ = some (.int .i64 x.x2)) (go_keep) (first | (go_at_call 9; with_reducible refine (AT1.out _).mono ?_; rintro e w9 ⟨rfl, rfl⟩) | (go_at_call 9; with_reducible refine (AT2.out _).mono ?_; rintro e w9 ⟨rfl, rfl⟩))
      refine HK.out _ _ ?_
      clear HK
      have RD := hid RD0.out.drew
      clear y0 y1 y2 y3 y4 c0 c1 c2 c3 c4 RD0 AT1 AT2
      obtain ⟨y0, y1, y2, y3, y4⟩ := RD.out.ops
      clear y1 y2
      by_cases e0 : x.k = 0
      · have ek : (x.k == 0) = true := by simp [e0]
        clear e0
        obtain ⟨q1, q2⟩ := RD.out.drew.aw.cells kn HK3.out
        obtain ⟨p0, p1, p2, p3, p4⟩ := RD.out.drew.ops
        have FX := hid (show ∃ b S p c l, (F kn).b = b ∧ (F kn).S = S ∧ (F kn).p = p ∧ (F kn).c = c ∧ (F kn).l = l from ⟨_, _, _, _, _, rfl, rfl, rfl, rfl, rfl⟩)
        obtain ⟨b, S, p, c, l, fb, fS, fp, fc, fl⟩ := FX.out
        rw [fb] at q1
        rw [fp, fc, fl] at q2
        have htl : l = tl S := by rw [← fl, ← fS]; exact RD.out.aw.tl kn HK3.out
        have WI := hid (show ∀ W', Rd w X F wr.heap.size x W' → Calls Tryd.prog 10 #[.slice p l.length c, .int .i64 x.A] W' fun e w' => ∃ p' c' l', l' = tl (insI S x.A) ∧ e = .returned (.tuple #[.slice p' l'.length c', .bool (setI S x.A)]) ∧ Lr w' p' l' ∧ Fo p' l'.length c' ∧ (p' = p ∨ ∃ g, p' = some ⟨g, 0, none⟩ ∧ W'.heap.size ≤ g ∧ g < w'.heap.size) ∧ Below W'.heap.size W' w' from by
          intro W' hW'
          have h1 := hW'.aw.lr kn HK3.out
          have h2 := hW'.aw.fo kn HK3.out
          rw [fp, fl, htl] at h1
          rw [fp, fl, fc, htl] at h2
          rw [htl]
          refine (with_all p c S x.A W' h1 h2).mono ?_
          rintro e w' ⟨p', c', rfl, h3, h4, h5, h6⟩
          exact ⟨p', c', _, rfl, rfl, h3, h4, h5, h6⟩)
        have ST := hid (show ∀ W', Bm W' b S → Calls Tryd.prog 11 #[.pointer (some ⟨b, 0, none⟩), .int .i64 x.A] W' fun e w' => e = .returned (.bool (setI S x.A)) ∧ Ko b W' w' ∧ Bm w' b (insI S x.A) from fun W' hB => set_any b S x.A W' hB)
        have HPUT := hid (show ∀ (p' : Option Addr) (c' : Nat) (l' : List Int) (W1 W2 : World), l' = tl (insI S x.A) → Below (wr.alloc (.cells #[.int .i64 x.k, .int .i64 x.x1, .int .i64 x.x2, .int .i64 x.A, .int .i64 x.B] 35)).drew.drew.heap.size (wr.alloc (.cells #[.int .i64 x.k, .int .i64 x.x1, .int .i64 x.x2, .int .i64 x.A, .int .i64 x.B] 35)).drew.drew W1 → Lr W1 p' l' → Fo p' l'.length c' → (p' = p ∨ ∃ g, p' = some ⟨g, 0, none⟩ ∧ (wr.alloc (.cells #[.int .i64 x.k, .int .i64 x.x1, .int .i64 x.x2, .int .i64 x.A, .int .i64 x.B] 35)).drew.drew.heap.size ≤ g ∧ g < W1.heap.size) → Ko b W1 W2 → Bm W2 b (insI S x.A) → Aw w X (updP F kn ⟨(F kn).b, insI S x.A, p', c', l'⟩) (W2.setCell ⟨X, kn * 2 + 1, none⟩ (.slice p' l'.length c')) from by
          intro p' c' l' W1 W2 a1 a2 a3 a4 a5 a6 a7
          refine RD.out.drew.aw.put kn HK3.out p' c' _ l' a1 a2 a3 a4 ?_ (by rw [fb]; exact a6) (by rw [fb]; exact a7)
          rw [fp]; exact a5)
        have HBM := hid (show ∀ W', Rd w X F wr.heap.size x W' → Bm W' b S ∧ b ≠ X ∧ b ≠ wr.heap.size from fun W' hW' => ⟨by have := hW'.aw.bm kn HK3.out; rw [fb, fS] at this; exact this, by have := (hW'.aw.bx kn HK3.out).1; rw [fb] at this; exact this, by have := (HF.out.bm kn HK3.out).lt; rw [fb] at this; omega⟩)
        have HCEL := hid (show ∀ W', Rd w X F wr.heap.size x W' → W'.cell? ⟨X, kn * 2, none⟩ = some (.pointer (some ⟨b, 0, none⟩)) ∧ W'.cell? ⟨X, kn * 2 + 1, none⟩ = some (.slice p l.length c) ∧ W'.cell? ⟨wr.heap.size, 3, none⟩ = some (.int .i64 x.A) from fun W' hW' => by
          obtain ⟨z1, z2⟩ := hW'.aw.cells kn HK3.out
          rw [fb] at z1
          rw [fp, fc, fl] at z2
          exact ⟨z1, z2, hW'.ops.2.2.2.1⟩)
        have RDD := hid RD.out.drew
        clear fb fS fp fc fl htl FX p0 p1 p2 p4
        go_wp2_with fail
        rename_i K A
        have HK := hid A
        clear A
        go_region_held3 (fun w' => w'.cell? ⟨X, kn * 2 + 1, none⟩ = some (.slice p l.length c) ∧ w'.cell? ⟨wr.heap.size, 3, none⟩ = some (.int .i64 x.A)) (go_keep) (first | (go_at_call 10; with_reducible refine (WI.out _ RDD.out).mono ?_; rintro e w6 ⟨p', c', l', g1, rfl, g2, g3, g4, g5⟩; have R6 := hid (RDD.out.step g5); obtain ⟨m1, m2, m3⟩ := HCEL.out _ R6.out; have HG := hid (And.intro g1 (And.intro g2 (And.intro g3 (And.intro g4 g5)))); clear g1 g2 g3 g4 g5))
        refine HK.out _ _ ?_
        clear HK WI
        have R6d := hid R6.out.drew
        obtain ⟨m1', m2', m3'⟩ := HCEL.out _ R6d.out
        obtain ⟨s, hs⟩ : ∃ s, setI S x.A = s := ⟨_, rfl⟩
        rw [hs] at ST ⊢
        have ss : (s != s) = false := by simp
        clear hs
        go_wp2_with fail
        rename_i K A
        have HK := hid A
        clear A
        go_region_held3 (fun w' => w'.cell? ⟨X, kn * 2, none⟩ = some (.pointer (some ⟨b, 0, none⟩)) ∧ w'.cell? ⟨wr.heap.size, 3, none⟩ = some (.int .i64 x.A)) (go_keep) (first | (go_at_call 11; with_reducible refine (ST.out _ (HBM.out _ R6d.out).1).mono ?_; rintro e w7 ⟨rfl, g6, g7⟩; have HKO := hid g6; have HBN := hid g7; have x7 := (g6.obj X R6d.out.aw.lt (Ne.symm (HBM.out _ R6d.out).2.1)).trans R6d.out.aw.row; have o7 := (g6.obj wr.heap.size (Array.getElem?_eq_some_iff.1 R6d.out.o).1 (Ne.symm (HBM.out _ R6d.out).2.2)).trans R6d.out.o; have n1 := (row_cell x7 (kn * 2)).trans ((row_cell R6d.out.aw.row (kn * 2)).symm.trans m1'); have n2 := (row_cell x7 (kn * 2 + 1)).trans ((row_cell R6d.out.aw.row (kn * 2 + 1)).symm.trans m2'); have n3 := (row_cell o7 3).trans ((row_cell R6d.out.o 3).symm.trans m3'); have nf := frozen_of_row w7 X (kn * 2 + 1) _ _ x7; clear g6 g7 x7 o7))
        refine HK.out _ _ ?_
        clear HK ST
        have FIN := hid (HPUT.out p' c' l' _ w7 HG.out.1 (chn HG.out.2.2.2.2 HG.out.2.2.2.2.size (below_drews (b := w6.drew) rfl rfl rfl rfl)) (HG.out.2.1.same (fun g _ hg => rfl)) HG.out.2.2.1 (by rcases HG.out.2.2.2.1 with h | ⟨g, h, h2, h3⟩; exact Or.inl h; exact Or.inr ⟨g, h, h2, h3⟩) HKO.out HBN.out)
        clear m1 m2 m3 m1' m2' m3'
        go_wp2_with fail
        go_roundw
        case rel => exact ⟨j1, _, HJM.out.1, rfl, FIN⟩
        case measure => simpa [intOf] using HJM.out.2
      have n0 : (x.k == 0) = false := by simpa using e0
      clear e0
      by_cases e1 : x.k = 1
      · have ek : (x.k == 1) = true := by simp [e1]
        clear e1
        obtain ⟨q1, q2⟩ := RD.out.drew.aw.cells kn HK3.out
        obtain ⟨p0, p1, p2, p3, p4⟩ := RD.out.drew.ops
        have FX := hid (show ∃ b S p c l, (F kn).b = b ∧ (F kn).S = S ∧ (F kn).p = p ∧ (F kn).c = c ∧ (F kn).l = l from ⟨_, _, _, _, _, rfl, rfl, rfl, rfl, rfl⟩)
        obtain ⟨b, S, p, c, l, fb, fS, fp, fc, fl⟩ := FX.out
        rw [fb] at q1
        rw [fp, fc, fl] at q2
        have htl : l = tl S := by rw [← fl, ← fS]; exact RD.out.aw.tl kn HK3.out
        have WI := hid (show ∀ W', Rd w X F wr.heap.size x W' → Calls Tryd.prog 12 #[.slice p l.length c, .int .i64 x.A] W' fun e w' => ∃ p' c' l', l' = tl (delI S x.A) ∧ e = .returned (.tuple #[.slice p' l'.length c', .bool (hasI S x.A)]) ∧ Lr w' p' l' ∧ Fo p' l'.length c' ∧ (p' = p ∨ ∃ g, p' = some ⟨g, 0, none⟩ ∧ W'.heap.size ≤ g ∧ g < w'.heap.size) ∧ Below W'.heap.size W' w' from by
          intro W' hW'
          have h1 := hW'.aw.lr kn HK3.out
          have h2 := hW'.aw.fo kn HK3.out
          rw [fp, fl, htl] at h1
          rw [fp, fl, fc, htl] at h2
          rw [htl]
          refine (without_all p c S x.A W' h1 h2).mono ?_
          rintro e w' ⟨p', c', rfl, h3, h4, h5, h6⟩
          exact ⟨p', c', _, rfl, rfl, h3, h4, h5, h6⟩)
        have ST := hid (show ∀ W', Bm W' b S → Calls Tryd.prog 13 #[.pointer (some ⟨b, 0, none⟩), .int .i64 x.A] W' fun e w' => e = .returned (.bool (hasI S x.A)) ∧ Ko b W' w' ∧ Bm w' b (delI S x.A) from fun W' hB => clear_any b S x.A W' hB)
        have HPUT := hid (show ∀ (p' : Option Addr) (c' : Nat) (l' : List Int) (W1 W2 : World), l' = tl (delI S x.A) → Below (wr.alloc (.cells #[.int .i64 x.k, .int .i64 x.x1, .int .i64 x.x2, .int .i64 x.A, .int .i64 x.B] 35)).drew.drew.heap.size (wr.alloc (.cells #[.int .i64 x.k, .int .i64 x.x1, .int .i64 x.x2, .int .i64 x.A, .int .i64 x.B] 35)).drew.drew W1 → Lr W1 p' l' → Fo p' l'.length c' → (p' = p ∨ ∃ g, p' = some ⟨g, 0, none⟩ ∧ (wr.alloc (.cells #[.int .i64 x.k, .int .i64 x.x1, .int .i64 x.x2, .int .i64 x.A, .int .i64 x.B] 35)).drew.drew.heap.size ≤ g ∧ g < W1.heap.size) → Ko b W1 W2 → Bm W2 b (delI S x.A) → Aw w X (updP F kn ⟨(F kn).b, delI S x.A, p', c', l'⟩) (W2.setCell ⟨X, kn * 2 + 1, none⟩ (.slice p' l'.length c')) from by
          intro p' c' l' W1 W2 a1 a2 a3 a4 a5 a6 a7
          refine RD.out.drew.aw.put kn HK3.out p' c' _ l' a1 a2 a3 a4 ?_ (by rw [fb]; exact a6) (by rw [fb]; exact a7)
          rw [fp]; exact a5)
        have HBM := hid (show ∀ W', Rd w X F wr.heap.size x W' → Bm W' b S ∧ b ≠ X ∧ b ≠ wr.heap.size from fun W' hW' => ⟨by have := hW'.aw.bm kn HK3.out; rw [fb, fS] at this; exact this, by have := (hW'.aw.bx kn HK3.out).1; rw [fb] at this; exact this, by have := (HF.out.bm kn HK3.out).lt; rw [fb] at this; omega⟩)
        have HCEL := hid (show ∀ W', Rd w X F wr.heap.size x W' → W'.cell? ⟨X, kn * 2, none⟩ = some (.pointer (some ⟨b, 0, none⟩)) ∧ W'.cell? ⟨X, kn * 2 + 1, none⟩ = some (.slice p l.length c) ∧ W'.cell? ⟨wr.heap.size, 3, none⟩ = some (.int .i64 x.A) from fun W' hW' => by
          obtain ⟨z1, z2⟩ := hW'.aw.cells kn HK3.out
          rw [fb] at z1
          rw [fp, fc, fl] at z2
          exact ⟨z1, z2, hW'.ops.2.2.2.1⟩)
        have RDD := hid RD.out.drew
        clear fb fS fp fc fl htl FX p0 p1 p2 p4
        go_wp2_with fail
        rename_i K A
        have HK := hid A
        clear A
        go_region_held3 (fun w' => w'.cell? ⟨X, kn * 2 + 1, none⟩ = some (.slice p l.length c) ∧ w'.cell? ⟨wr.heap.size, 3, none⟩ = some (.int .i64 x.A)) (go_keep) (first | (go_at_call 12; with_reducible refine (WI.out _ RDD.out).mono ?_; rintro e w6 ⟨p', c', l', g1, rfl, g2, g3, g4, g5⟩; have R6 := hid (RDD.out.step g5); obtain ⟨m1, m2, m3⟩ := HCEL.out _ R6.out; have HG := hid (And.intro g1 (And.intro g2 (And.intro g3 (And.intro g4 g5)))); clear g1 g2 g3 g4 g5))
        refine HK.out _ _ ?_
        clear HK WI
        have R6d := hid R6.out.drew
        obtain ⟨m1', m2', m3'⟩ := HCEL.out _ R6d.out
        obtain ⟨s, hs⟩ : ∃ s, hasI S x.A = s := ⟨_, rfl⟩
        rw [hs] at ST ⊢
        have ss : (s != s) = false := by simp
        clear hs
        go_wp2_with fail
        rename_i K A
        have HK := hid A
        clear A
        go_region_held3 (fun w' => w'.cell? ⟨X, kn * 2, none⟩ = some (.pointer (some ⟨b, 0, none⟩)) ∧ w'.cell? ⟨wr.heap.size, 3, none⟩ = some (.int .i64 x.A)) (go_keep) (first | (go_at_call 13; with_reducible refine (ST.out _ (HBM.out _ R6d.out).1).mono ?_; rintro e w7 ⟨rfl, g6, g7⟩; have HKO := hid g6; have HBN := hid g7; have x7 := (g6.obj X R6d.out.aw.lt (Ne.symm (HBM.out _ R6d.out).2.1)).trans R6d.out.aw.row; have o7 := (g6.obj wr.heap.size (Array.getElem?_eq_some_iff.1 R6d.out.o).1 (Ne.symm (HBM.out _ R6d.out).2.2)).trans R6d.out.o; have n1 := (row_cell x7 (kn * 2)).trans ((row_cell R6d.out.aw.row (kn * 2)).symm.trans m1'); have n2 := (row_cell x7 (kn * 2 + 1)).trans ((row_cell R6d.out.aw.row (kn * 2 + 1)).symm.trans m2'); have n3 := (row_cell o7 3).trans ((row_cell R6d.out.o 3).symm.trans m3'); have nf := frozen_of_row w7 X (kn * 2 + 1) _ _ x7; clear g6 g7 x7 o7))
        refine HK.out _ _ ?_
        clear HK ST
        have FIN := hid (HPUT.out p' c' l' _ w7 HG.out.1 (chn HG.out.2.2.2.2 HG.out.2.2.2.2.size (below_drews (b := w6.drew) rfl rfl rfl rfl)) (HG.out.2.1.same (fun g _ hg => rfl)) HG.out.2.2.1 (by rcases HG.out.2.2.2.1 with h | ⟨g, h, h2, h3⟩; exact Or.inl h; exact Or.inr ⟨g, h, h2, h3⟩) HKO.out HBN.out)
        clear m1 m2 m3 m1' m2' m3'
        go_wp2_with fail
        go_roundw
        case rel => exact ⟨j1, _, HJM.out.1, rfl, FIN⟩
        case measure => simpa [intOf] using HJM.out.2
      have n1 : (x.k == 1) = false := by simpa using e1
      clear e1
      by_cases e11 : x.k = 11
      · have ek : (x.k == 11) = true := by simp [e11]
        clear e11
        have FX := hid (show ∃ b S p c l, (F jn).b = b ∧ (F jn).S = S ∧ (F jn).p = p ∧ (F jn).c = c ∧ (F jn).l = l from ⟨_, _, _, _, _, rfl, rfl, rfl, rfl, rfl⟩)
        obtain ⟨b, S, p, c, l, fb, fS, fp, fc, fl⟩ := FX.out
        have HCEL := hid (show ∀ W', Rd w X F wr.heap.size x W' → W'.cell? ⟨X, jn * 2, none⟩ = some (.pointer (some ⟨b, 0, none⟩)) ∧ W'.cell? ⟨X, jn * 2 + 1, none⟩ = some (.slice p l.length c) ∧ (∃ u, W'.cell? ⟨X, kn * 2, none⟩ = some u) ∧ (∀ v, ∃ u, (W'.setCell ⟨X, kn * 2, none⟩ v).cell? ⟨X, kn * 2 + 1, none⟩ = some u) ∧ W'.frozen? ⟨X, kn * 2, none⟩ = false ∧ (∀ v, (W'.setCell ⟨X, kn * 2, none⟩ v).frozen? ⟨X, kn * 2 + 1, none⟩ = false) from fun W' hW' => by
          obtain ⟨z1, z2⟩ := hW'.aw.cells jn HJ3.out
          obtain ⟨z3, z4⟩ := hW'.aw.cells kn HK3.out
          rw [fb] at z1
          rw [fp, fc, fl] at z2
          refine ⟨z1, z2, ⟨_, z3⟩, fun v => ?_, frozen_of_row W' X _ _ _ hW'.aw.row, fun v => frozen_of_row _ X _ _ _ (heap_setCell_same W' X (kn * 2) _ 33 v hW'.aw.row)⟩
          refine ⟨.slice (F kn).p (F kn).l.length (F kn).c, ?_⟩
          rw [row_cell (heap_setCell_same W' X (kn * 2) _ 33 v hW'.aw.row), Array.getElem?_setIfInBounds_ne (by omega)]
          exact rowX_s F kn HK3.out)
        have HCPY := hid (show ∀ (W1 : World), Below (wr.alloc (.cells #[.int .i64 x.k, .int .i64 x.x1, .int .i64 x.x2, .int .i64 x.A, .int .i64 x.B] 35)).drew.heap.size (wr.alloc (.cells #[.int .i64 x.k, .int .i64 x.x1, .int .i64 x.x2, .int .i64 x.A, .int .i64 x.B] 35)).drew W1 → Bm W1 (wr.alloc (.cells #[.int .i64 x.k, .int .i64 x.x1, .int .i64 x.x2, .int .i64 x.A, .int .i64 x.B] 35)).drew.heap.size S → Aw w X (updP F kn ⟨(wr.alloc (.cells #[.int .i64 x.k, .int .i64 x.x1, .int .i64 x.x2, .int .i64 x.A, .int .i64 x.B] 35)).drew.heap.size, (F jn).S, (F jn).p, (F jn).c, (F jn).l⟩) ((W1.setCell ⟨X, kn * 2, none⟩ (.pointer (some ⟨(wr.alloc (.cells #[.int .i64 x.k, .int .i64 x.x1, .int .i64 x.x2, .int .i64 x.A, .int .i64 x.B] 35)).drew.heap.size, 0, none⟩))).setCell ⟨X, kn * 2 + 1, none⟩ (.slice p l.length c)) from by
          intro W1 a1 a2
          have := RD.out.aw.copy kn jn HK3.out HJ3.out (wr.alloc (.cells #[.int .i64 x.k, .int .i64 x.x1, .int .i64 x.x2, .int .i64 x.A, .int .i64 x.B] 35)).drew.heap.size a1 (Nat.le_refl _) (by rw [fS]; exact a2)
          rw [fp, fc, fl] at this
          rw [fp, fc, fl]
          exact this)
        have HBM := hid (show Bm (wr.alloc (.cells #[.int .i64 x.k, .int .i64 x.x1, .int .i64 x.x2, .int .i64 x.A, .int .i64 x.B] 35)).drew b S from by have := RD.out.aw.bm jn HJ3.out; rw [fb, fS] at this; exact this)
        obtain ⟨q1, q2, ⟨u1, q3⟩, q4, q5, q6⟩ := HCEL.out _ RD.out
        clear FX fb fS fp fc fl
        have CL := hid (clone_any b S (wr.alloc (.cells #[.int .i64 x.k, .int .i64 x.x1, .int .i64 x.x2, .int .i64 x.A, .int .i64 x.B] 35)).drew HBM.out)
        obtain ⟨NB, hNB⟩ : ∃ NB, (wr.alloc (.cells #[.int .i64 x.k, .int .i64 x.x1, .int .i64 x.x2, .int .i64 x.A, .int .i64 x.B] 35)).drew.heap.size = NB := ⟨_, rfl⟩
        rw [hNB] at CL HCPY
        have HNB := hid hNB
        have nbn : NB = NB := rfl
        clear hNB
        go_wp2_with (first | (go_at_call 14; with_reducible refine (CL.out).mono ?_; rintro e w6 ⟨rfl, g1, g2⟩; clear CL; have HB6 := hid g1; have HL6 := hid g2; clear g1 g2; refine Hid.out ?_))
        have R6 := hid (RD.out.step (by rw [HNB.out]; exact HL6.out))
        clear q1 q2 q3 q4 q5 q6
        obtain ⟨q1, q2, ⟨u2, q3⟩, q4, q5, q6⟩ := HCEL.out _ R6.out
        have FIN := hid (HCPY.out w6 HL6.out HB6.out)
        obtain ⟨u3, q7⟩ := q4 (.pointer (some ⟨NB, 0, none⟩))
        have q8 := q6 (.pointer (some ⟨NB, 0, none⟩))
        clear q4 q6
        refine hid ?_
        go_wp2_with fail
        go_roundw
        case rel => exact ⟨j1, _, HJM.out.1, rfl, FIN⟩
        case measure => simpa [intOf] using HJM.out.2
      have n11 : (x.k == 11) = false := by simpa using e11
      clear e11
      by_cases e12 : x.k = 12
      · have ek : (x.k == 12) = true := by simp [e12]
        clear e12
        have FX := hid (show ∃ b S p c l, (F jn).b = b ∧ (F jn).S = S ∧ (F jn).p = p ∧ (F jn).c = c ∧ (F jn).l = l from ⟨_, _, _, _, _, rfl, rfl, rfl, rfl, rfl⟩)
        obtain ⟨b, S, p, c, l, fb, fS, fp, fc, fl⟩ := FX.out
        have HCEL := hid (show ∀ W', Rd w X F wr.heap.size x W' → W'.cell? ⟨X, jn * 2, none⟩ = some (.pointer (some ⟨b, 0, none⟩)) ∧ W'.cell? ⟨X, jn * 2 + 1, none⟩ = some (.slice p l.length c) ∧ (∃ u, W'.cell? ⟨X, kn * 2, none⟩ = some u) ∧ (∀ v, ∃ u, (W'.setCell ⟨X, kn * 2, none⟩ v).cell? ⟨X, kn * 2 + 1, none⟩ = some u) ∧ W'.frozen? ⟨X, kn * 2, none⟩ = false ∧ (∀ v, (W'.setCell ⟨X, kn * 2, none⟩ v).frozen? ⟨X, kn * 2 + 1, none⟩ = false) from fun W' hW' => by
          obtain ⟨z1, z2⟩ := hW'.aw.cells jn HJ3.out
          obtain ⟨z3, z4⟩ := hW'.aw.cells kn HK3.out
          rw [fb] at z1
          rw [fp, fc, fl] at z2
          refine ⟨z1, z2, ⟨_, z3⟩, fun v => ?_, frozen_of_row W' X _ _ _ hW'.aw.row, fun v => frozen_of_row _ X _ _ _ (heap_setCell_same W' X (kn * 2) _ 33 v hW'.aw.row)⟩
          refine ⟨.slice (F kn).p (F kn).l.length (F kn).c, ?_⟩
          rw [row_cell (heap_setCell_same W' X (kn * 2) _ 33 v hW'.aw.row), Array.getElem?_setIfInBounds_ne (by omega)]
          exact rowX_s F kn HK3.out)
        have HCPY := hid (show ∀ (W1 : World), Below (wr.alloc (.cells #[.int .i64 x.k, .int .i64 x.x1, .int .i64 x.x2, .int .i64 x.A, .int .i64 x.B] 35)).drew.heap.size (wr.alloc (.cells #[.int .i64 x.k, .int .i64 x.x1, .int .i64 x.x2, .int .i64 x.A, .int .i64 x.B] 35)).drew W1 → Bm W1 (wr.alloc (.cells #[.int .i64 x.k, .int .i64 x.x1, .int .i64 x.x2, .int .i64 x.A, .int .i64 x.B] 35)).drew.heap.size S → Aw w X (updP F kn ⟨(wr.alloc (.cells #[.int .i64 x.k, .int .i64 x.x1, .int .i64 x.x2, .int .i64 x.A, .int .i64 x.B] 35)).drew.heap.size, (F jn).S, (F jn).p, (F jn).c, (F jn).l⟩) ((W1.setCell ⟨X, kn * 2, none⟩ (.pointer (some ⟨(wr.alloc (.cells #[.int .i64 x.k, .int .i64 x.x1, .int .i64 x.x2, .int .i64 x.A, .int .i64 x.B] 35)).drew.heap.size, 0, none⟩))).setCell ⟨X, kn * 2 + 1, none⟩ (.slice p l.length c)) from by
          intro W1 a1 a2
          have := RD.out.aw.copy kn jn HK3.out HJ3.out (wr.alloc (.cells #[.int .i64 x.k, .int .i64 x.x1, .int .i64 x.x2, .int .i64 x.A, .int .i64 x.B] 35)).drew.heap.size a1 (Nat.le_refl _) (by rw [fS]; exact a2)
          rw [fp, fc, fl] at this
          rw [fp, fc, fl]
          exact this)
        have HBM := hid (show Bm (wr.alloc (.cells #[.int .i64 x.k, .int .i64 x.x1, .int .i64 x.x2, .int .i64 x.A, .int .i64 x.B] 35)).drew b S from by have := RD.out.aw.bm jn HJ3.out; rw [fb, fS] at this; exact this)
        obtain ⟨q1, q2, ⟨u1, q3⟩, q4, q5, q6⟩ := HCEL.out _ RD.out
        clear FX fb fS fp fc fl
        obtain ⟨row, r1, r2, r3⟩ := HBM.out
        have R1 := row_one r2 r3
        have I1 : (Tryd.prog.info? 28).map (·.size) = some row.size := by rw [r2]; exact info28s
        have Z1 : zrow.size = row.size := by rw [r2]; exact Array.size_replicate
        obtain ⟨W0, hW0⟩ : ∃ W0, (wr.alloc (.cells #[.int .i64 x.k, .int .i64 x.x1, .int .i64 x.x2, .int .i64 x.A, .int .i64 x.B] 35)).drew = W0 := ⟨_, rfl⟩
        rw [hW0] at HCPY RD r1 q1 q2 q3 q4 q5 q6 y0 y3 y4 ⊢
        have al : (W0.alloc (.cells zrow 28)).heap[W0.heap.size]? = some (.cells zrow 28 (0, 0)) := World.alloc_heap_new _ _
        have W1 : ((W0.alloc (.cells zrow 28)).setRow W0.heap.size row).heap[W0.heap.size]? = some (.cells row 28 (0, 0)) := setRow_heap _ _ _ _ _ _ al
        have HC4 := hid (show Bm ((W0.alloc (.cells zrow 28)).setRow W0.heap.size row) W0.heap.size S from ⟨row, W1, r2, r3⟩)
        have W2 : ∀ j, j < W0.heap.size → ((W0.alloc (.cells zrow 28)).setRow W0.heap.size row).heap[j]? = W0.heap[j]? := fun j hj => by
          rw [setRow_other _ _ _ _ (by omega), Below.heap_alloc _ _ _ hj]
        have B4 := hid (show Below W0.heap.size W0 ((W0.alloc (.cells zrow 28)).setRow W0.heap.size row) from ⟨rfl, rfl, rfl, by simp, W2⟩)
        have FIN := hid (HCPY.out _ B4.out HC4.out)
        have R6 := hid (RD.out.step B4.out)
        obtain ⟨t1, t2, ⟨u2, t3⟩, t4, t5, t6⟩ := HCEL.out _ R6.out
        obtain ⟨u3, t7⟩ := t4 (.pointer (some ⟨W0.heap.size, 0, none⟩))
        have t8 := t6 (.pointer (some ⟨W0.heap.size, 0, none⟩))
        have AL := hid al
        have RR1 := hid r1
        have RO := hid R1
        have II := hid I1
        have ZZ := hid Z1
        clear r1 r2 r3 R1 I1 Z1 al W1 W2 hW0 t4 t6 q4 q6
        go_wp2_with (first
          | (refine wpList_load_row (by rfl) 28 (.tmp 122) (by rfl) b (by rfl) 28 row (0, 0) _ RR1.out Tryd.underlying28 rfl II.out ?_)
          | (refine wpList_store_row (by rfl) 28 (.tmp 13) (.tmp 123) (by rfl) W0.heap.size row (by rfl) (by rfl) 28 zrow AL.out II.out ZZ.out RO.out ?_))
        go_roundw
        case rel => exact ⟨j1, _, HJM.out.1, rfl, FIN⟩
        case measure => simpa [intOf] using HJM.out.2
      have n12 : (x.k == 12) = false := by simpa using e12
      clear e12
      by_cases e13 : x.k = 13
      · have ek : (x.k == 13) = true := by simp [e13]
        clear e13
        have FX := hid (show ∃ b S p c l b2 S2 p2 c2 l2, ((F kn).b = b ∧ (F kn).S = S ∧ (F kn).p = p ∧ (F kn).c = c ∧ (F kn).l = l) ∧ ((F jn).b = b2 ∧ (F jn).S = S2 ∧ (F jn).p = p2 ∧ (F jn).c = c2 ∧ (F jn).l = l2) from ⟨_, _, _, _, _, _, _, _, _, _, ⟨rfl, rfl, rfl, rfl, rfl⟩, ⟨rfl, rfl, rfl, rfl, rfl⟩⟩)
        obtain ⟨b, S, p, c, l, b2, S2, p2, c2, l2, ⟨fb, fS, fp, fc, fl⟩, ⟨gb, gS, gp, gc, gl⟩⟩ := FX.out
        have HCEL := hid (show ∀ W', Rd w X F wr.heap.size x W' → W'.cell? ⟨X, kn * 2, none⟩ = some (.pointer (some ⟨b, 0, none⟩)) ∧ W'.cell? ⟨X, kn * 2 + 1, none⟩ = some (.slice p l.length c) ∧ W'.cell? ⟨X, jn * 2, none⟩ = some (.pointer (some ⟨b2, 0, none⟩)) ∧ W'.cell? ⟨X, jn * 2 + 1, none⟩ = some (.slice p2 l2.length c2) from fun W' hW' => by
          obtain ⟨z1, z2⟩ := hW'.aw.cells kn HK3.out
          obtain ⟨z3, z4⟩ := hW'.aw.cells jn HJ3.out
          rw [fb] at z1
          rw [fp, fc, fl] at z2
          rw [gb] at z3
          rw [gp, gc, gl] at z4
          exact ⟨z1, z2, z3, z4⟩)
        have hl1 : l = tl S := by rw [← fl, ← fS]; exact RD.out.aw.tl kn HK3.out
        have hl2 : l2 = tl S2 := by rw [← gl, ← gS]; exact RD.out.aw.tl jn HJ3.out
        have hsm : decide (l = l2) = sameS S S2 := by
          unfold sameS
          rw [hl1, hl2]
          by_cases h : lows S = lows S2
          · rw [decide_eq_true h, decide_eq_true ((tl_same S S2).2 h)]
          · rw [decide_eq_false h, decide_eq_false (fun h2 => h ((tl_same S S2).1 h2))]
        have hn1 : l.length ≤ 262144 := by rw [hl1, tl_len]; exact len_le S
        have hn2 : l2.length ≤ 262144 := by rw [hl2, tl_len]; exact len_le S2
        have EQ := hid (show ∀ W', Rd w X F wr.heap.size x W' → Calls Tryd.prog 15 #[.pointer (some ⟨b, 0, none⟩), .pointer (some ⟨b2, 0, none⟩)] W' fun e w' => e = .returned (.bool (sameS S S2)) ∧ Below W'.heap.size W' w' from fun W' hW' => equal_any b b2 S S2 W' (by have := hW'.aw.bm kn HK3.out; rw [fb, fS] at this; exact this) (by have := hW'.aw.bm jn HJ3.out; rw [gb, gS] at this; exact this))
        have SM := hid (show ∀ W', Rd w X F wr.heap.size x W' → Calls Tryd.prog 16 #[.slice p l.length c, .slice p2 l2.length c2] W' fun e w' => e = .returned (.bool (sameS S S2)) ∧ Below W'.heap.size W' w' from fun W' hW' => by
          rw [← hsm]
          exact same_any p p2 c c2 l l2 W' (by have := hW'.aw.lr kn HK3.out; rw [fp, fl] at this; exact this) (by have := hW'.aw.lr jn HJ3.out; rw [gp, gl] at this; exact this) hn1 hn2)
        obtain ⟨s, hs⟩ : ∃ s, sameS S S2 = s := ⟨_, rfl⟩
        rw [hs] at EQ SM
        have ss : (s != s) = false := by simp
        clear FX fb fS fp fc fl gb gS gp gc gl hl1 hl2 hsm hn1 hn2 hs
        go_wp2_with fail
        rename_i K A
        have HK := hid A
        clear A
        have RA := hid RD.out.drew
        obtain ⟨q1, q2, q3, q4⟩ := HCEL.out _ RA.out
        go_region_held3 (fun w' => w'.cell? ⟨X, kn * 2, none⟩ = some (.pointer (some ⟨b, 0, none⟩)) ∧ w'.cell? ⟨X, kn * 2 + 1, none⟩ = some (.slice p l.length c) ∧ w'.cell? ⟨X, jn * 2, none⟩ = some (.pointer (some ⟨b2, 0, none⟩)) ∧ w'.cell? ⟨X, jn * 2 + 1, none⟩ = some (.slice p2 l2.length c2)) (go_keep) (first | (go_at_call 15; with_reducible refine (EQ.out _ RA.out).mono ?_; rintro e w6 ⟨rfl, g1⟩; replace RA := hid (RA.out.step g1); clear g1; obtain ⟨q1, q2, q3, q4⟩ := HCEL.out _ RA.out) | (go_at_call 16; with_reducible refine (SM.out _ RA.out).mono ?_; rintro e w6 ⟨rfl, g1⟩; replace RA := hid (RA.out.step g1); clear g1; obtain ⟨q1, q2, q3, q4⟩ := HCEL.out _ RA.out))
        refine HK.out _ _ ?_
        have FIN := hid RA.out.aw
        go_wp2_with fail
        go_roundw
        case rel => exact ⟨j1, F, HJM.out.1, rfl, FIN⟩
        case measure => simpa [intOf] using HJM.out.2
      have n13 : (x.k == 13) = false := by simpa using e13
      clear e13
      have FX := hid (show ∃ b S p c l, (F kn).b = b ∧ (F kn).S = S ∧ (F kn).p = p ∧ (F kn).c = c ∧ (F kn).l = l from ⟨_, _, _, _, _, rfl, rfl, rfl, rfl, rfl⟩)
      obtain ⟨b, S, p, c, l, fb, fS, fp, fc, fl⟩ := FX.out
      have HCEL := hid (show ∀ W', Rd w X F wr.heap.size x W' → W'.cell? ⟨X, kn * 2, none⟩ = some (.pointer (some ⟨b, 0, none⟩)) ∧ W'.cell? ⟨X, kn * 2 + 1, none⟩ = some (.slice p l.length c) from fun W' hW' => by
        obtain ⟨z1, z2⟩ := hW'.aw.cells kn HK3.out
        rw [fb] at z1
        rw [fp, fc, fl] at z2
        exact ⟨z1, z2⟩)
      have AK := hid (show ∀ W', Rd w X F wr.heap.size x W' → Calls Tryd.prog 17 #[.agg #[.pointer (some ⟨b, 0, none⟩), .slice p l.length c], .agg #[.int .i64 x.k, .int .i64 x.x1, .int .i64 x.x2, .int .i64 x.A, .int .i64 x.B]] W' fun e w' => e = .returned (.bool true) ∧ Rd w X F wr.heap.size x w' from by
        intro W' hW'
        by_cases hk : 2 ≤ x.k ∧ x.k ≤ 10
        · have hb := hW'.aw.bm kn HK3.out
          have hlr := hW'.aw.lr kn HK3.out
          have htl : Tl S l := by rw [← fl, ← fS, hW'.aw.tl kn HK3.out]; exact Tl.of _
          have hbx := hW'.aw.bx kn HK3.out
          have hlg := hW'.aw.lg kn HK3.out
          have hlt := (HF.out.bm kn HK3.out).lt
          rw [fb] at hbx hlt
          rw [fp] at hlg
          refine (ask_all x.k hk b S p c l htl x.x1 x.x2 x.A x.B W' (by rw [fb, fS] at hb; exact hb) (HLD.out _ hW'.aw.bel) (by have := H0.out; omega) (by rw [fp, fl] at hlr; exact hlr) (fun g hg => by have := (hlg g hg).2.2 kn HK3.out; rw [fb] at this; exact this) HXB.out.1 HXB.out.2).mono ?_
          rintro e w' ⟨rfl, h1, h2⟩
          exact ⟨rfl, hW'.aw.ask kn HK3.out (by rw [fb]; exact h1) (by rw [fb, fS]; exact h2), (h1.obj wr.heap.size (Array.getElem?_eq_some_iff.1 hW'.o).1 (by omega)).trans hW'.o⟩
        · refine (ask_other x.k hk b p l.length c x.x1 x.x2 x.A x.B W').mono ?_
          rintro e w' ⟨rfl, h1⟩
          exact ⟨rfl, hW'.step h1⟩)
      clear FX fb fS fp fc fl
      go_wp2_with fail
      rename_i K A
      have HK := hid A
      clear A
      have RA := hid RD.out.drew
      obtain ⟨q1, q2⟩ := HCEL.out _ RA.out
      obtain ⟨p0, p1, p2, p3, p4⟩ := RA.out.ops
      go_region_held3 (fun w' => w'.cell? ⟨X, kn * 2, none⟩ = some (.pointer (some ⟨b, 0, none⟩)) ∧ w'.cell? ⟨X, kn * 2 + 1, none⟩ = some (.slice p l.length c) ∧ w'.cell? ⟨wr.heap.size, 0, none⟩ = some (.int .i64 x.k) ∧ w'.cell? ⟨wr.heap.size, 1, none⟩ = some (.int .i64 x.x1) ∧ w'.cell? ⟨wr.heap.size, 2, none⟩ = some (.int .i64 x.x2) ∧ w'.cell? ⟨wr.heap.size, 3, none⟩ = some (.int .i64 x.A) ∧ w'.cell? ⟨wr.heap.size, 4, none⟩ = some (.int .i64 x.B)) (go_keep) (first | (go_at_call 17; with_reducible refine (AK.out _ RA.out).mono ?_; rintro e w6 ⟨rfl, g1⟩; replace RA := hid g1; clear g1; obtain ⟨q1, q2⟩ := HCEL.out _ RA.out; obtain ⟨p0, p1, p2, p3, p4⟩ := RA.out.ops))
      refine HK.out _ _ ?_
      have FIN := hid RA.out.aw
      go_wp2_with fail
      go_roundw
      case rel => exact ⟨j1, F, HJM.out.1, rfl, FIN⟩
      case measure => simpa [intOf] using HJM.out.2
end Go.Proofs.YtcbfgodknonefaaDoor
