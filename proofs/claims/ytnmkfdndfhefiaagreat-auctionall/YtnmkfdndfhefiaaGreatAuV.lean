/-
  Buys and sells trade.
-/
import Derived.Test.YtnmkfdndfhefiaaGreatAuVp
namespace Go.Proofs.YtnmkfdndfhefiaaGreat
open Go.RowKit Go.Deep Go.Shelf
set_option linter.unusedVariables false
set_option linter.unusedSimpArgs false
set_option maxHeartbeats 8000000
set_option maxRecDepth 100000
attribute [local go_sem ↓] Go.wp_at_zero Go.wp_at_succ
def frow (f : Fi) : List Value := [.int .u64 f.bu, .int .u64 f.se, .int .i64 f.pr, .int .u64 f.qt]
def frs (l : List Fi) : List Value := l.flatMap frow
theorem frs_app (a b : List Fi) : frs (a ++ b) = frs a ++ frs b := by simp [frs]
theorem frow_one (f : Fi) : ∀ u ∈ frow f, u.oneCell' = true := by
  intro v hv
  simp only [frow, List.mem_cons, List.not_mem_nil, or_false] at hv
  rcases hv with rfl | rfl | rfl | rfl <;> rfl
theorem infoF : (Tryz.prog.info? 67).map (fun i => (i.zero, i.size, i.bytes)) = some (some (.agg #[.int .u64 0, .int .u64 0, .int .i64 0, .int .u64 0]), 4, 32) := by kernel_rfl
theorem made4 (U : World) (f : Fi) : (U.alloc (.cells #[.int .u64 f.bu, .int .u64 f.se, .int .i64 f.pr, .int .u64 f.qt] 67)).ownsRow 0 67 4 (.slice (some ⟨U.heap.size, 0, none⟩) 1 1) 1 (frow f) :=
  ⟨rfl, .inr ⟨U.heap.size, 1, #[.int .u64 f.bu, .int .u64 f.se, .int .i64 f.pr, .int .u64 f.qt], rfl, Nat.zero_le _, World.alloc_heap_new _ _, Nat.le_refl _, by unfold maxLen; omega, rfl, rfl⟩⟩
theorem grow_kp {U w' : World} {o : Obj} {v : Value} (hg : (U.alloc o).grownBy w' v.ownBlock) : Kp (fun b => v.ownBlock = some b) U w' :=
  ⟨hg.os, hg.tape, hg.output, Nat.le_trans (by simp) hg.size, fun b hb hB => (hg.block b (by simp; omega) (fun e => hB e.symm)).trans ((ball U o).block b hb)⟩
theorem dl_any (p : Option Addr) (c : Nat) (l : List It) (i : Nat) (w : World) (h : Li w p c l) (hi : i ≤ l.length) (hn : l.length ≤ 4096) :
    Calls Tryz.prog 55 #[.slice p l.length c, .int .i64 0, .int .i64 i] w fun e w' => e = .returned (.slice p (l.drop i).length c) ∧ Li w' p c (l.drop i) ∧ Kp (OfP p) w w' := by
  by_cases h0 : i = 0
  · subst h0
    refine (delete_same p c l 0 w h hi hn).mono ?_
    rintro e w' ⟨rfl, rfl⟩
    exact ⟨rfl, h, Kp.refl _ _⟩
  · obtain ⟨g, cur, rfl, _⟩ := h.some (by omega)
    refine (delete_any g c l 0 i w h (by omega) hi hn).mono ?_
    rintro e w' ⟨rfl, h1, h2⟩
    exact ⟨rfl, h1, h2.mono (fun b _ e => by rw [e]; exact OfP.mk g)⟩
theorem at_len {D xs : List It} {x : It} {i : Nat} (hD : D.length = i) : ∃ h : i < (D ++ x :: xs).length, (D ++ x :: xs)[i] = x := by
  subst hD
  exact ⟨by simp, by simp⟩
theorem set_len {D xs : List It} {x z : It} {i : Nat} (hD : D.length = i) : (D ++ x :: xs).set i z = D ++ z :: xs := by
  subst hD
  simp
/-- a side as it lies while it trades: those that are gone, and those that are left. -/
theorem lay_cut {D xs : List It} {x : It} {n : Int} : ∃ D', D ++ lss x n :: xs = D' ++ cut x n xs ∧ D'.length = if x.qt = n then D.length + 1 else D.length := by
  unfold cut
  split
  · exact ⟨D ++ [lss x n], by simp, by simp⟩
  · exact ⟨D, rfl, rfl⟩
theorem trd_step {p : Int} {f : Nat} {left : Int} {x y : It} {xs ys : List It} (hl : 0 < left) (hf : (x :: xs).length + (y :: ys).length ≤ f) : ∃ f', f = f' + 1 ∧ (cut x (min x.qt y.qt) xs).length + (cut y (min x.qt y.qt) ys).length ≤ f' ∧ trd p f left (x :: xs) (y :: ys) = (⟨x.id, y.id, p, min x.qt y.qt⟩ :: (trd p f' (left - min x.qt y.qt) (cut x (min x.qt y.qt) xs) (cut y (min x.qt y.qt) ys)).1, (trd p f' (left - min x.qt y.qt) (cut x (min x.qt y.qt) xs) (cut y (min x.qt y.qt) ys)).2) := by
  simp only [List.length_cons] at hf
  obtain ⟨f', rfl⟩ : ∃ f', f = f' + 1 := ⟨f - 1, by omega⟩
  refine ⟨f', rfl, ?_, ?_⟩
  · unfold cut
    by_cases h1 : x.qt = min x.qt y.qt <;> by_cases h2 : y.qt = min x.qt y.qt
    · rw [if_pos h1, if_pos h2]; omega
    · rw [if_pos h1, if_neg h2, List.length_cons]; omega
    · rw [if_neg h1, if_pos h2, List.length_cons]; omega
    · omega
  · show (if left ≤ 0 then _ else _) = _
    rw [if_neg (by omega)]
/-- what stands between two trades. -/
structure Tb (W wr : World) (B : Nat) (p : Int) (f0 : Nat) (V : Int) (b0 s0 : List It) (p1 : Option Addr) (c1 n1 : Nat) (p2 : Option Addr) (c2 n2 : Nat) (i j nf : Nat) (left : Int) (pf : Option Addr) (cf : Nat) (xs ys : List It) (F : List Fi) : Prop where
  D1 : ∃ D, D.length = i ∧ Li wr p1 c1 (D ++ xs)
  D2 : ∃ D, D.length = j ∧ Li wr p2 c2 (D ++ ys)
  l1 : i + xs.length = n1
  l2 : j + ys.length = n2
  fo : wr.ownsRow W.heap.size 67 4 (.slice pf nf cf) nf (frs F)
  fl : F.length = nf
  tr : ∃ f, xs.length + ys.length ≤ f ∧ trd p f0 V b0 s0 = (F ++ (trd p f left xs ys).1, (trd p f left xs ys).2)
  vg : Vg left xs ys
  s1 : Sd 1 xs
  s2 : Sd 2 ys
  kp : Kp (fun g => OfP p1 g ∨ OfP p2 g) W wr
  nb : nf + xs.length + ys.length ≤ n1 + n2
theorem Tb.next {W wr w6 : World} {B : Nat} {p : Int} {f0 : Nat} {V : Int} {b0 s0 : List It} {p1 : Option Addr} {c1 n1 : Nat} {p2 : Option Addr} {c2 n2 i j nf : Nat} {left : Int} {pf : Option Addr} {cf : Nat} {x y : It} {xs ys : List It} {F : List Fi} {pf' : Option Addr} {cf' i' j' : Nat} {n : Int}
    (h : Tb W wr B p f0 V b0 s0 p1 c1 n1 p2 c2 n2 i j nf left pf cf (x :: xs) (y :: ys) F) (hl : 0 < left) (hn : min x.qt y.qt = n)
    (hi : i' = if x.qt = n then i + 1 else i) (hj : j' = if y.qt = n then j + 1 else j)
    (h1 : ∃ D, D.length = i ∧ Li w6 p1 c1 (D ++ lss x n :: xs)) (h2 : ∃ D, D.length = j ∧ Li w6 p2 c2 (D ++ lss y n :: ys))
    (hf : w6.ownsRow W.heap.size 67 4 (.slice pf' (nf + 1) cf') (nf + 1) (frs F ++ frow ⟨x.id, y.id, p, n⟩)) (hk : Kp (fun g => OfP p1 g ∨ OfP p2 g) W w6) :
    Tb W w6 B p f0 V b0 s0 p1 c1 n1 p2 c2 n2 i' j' (nf + 1) (left - n) pf' cf' (cut x n xs) (cut y n ys) (F ++ [⟨x.id, y.id, p, n⟩]) := by
  obtain ⟨D1, hD1, hL1⟩ := h1
  obtain ⟨D2, hD2, hL2⟩ := h2
  obtain ⟨f, hfl, htr⟩ := h.tr
  obtain ⟨f', hff, hf', htr'⟩ := trd_step (p := p) hl hfl
  obtain ⟨hnl, hvg⟩ := h.vg.step h.s1 h.s2 hl
  have qx := (h.s1.ok x (by simp)).q0
  have qy := (h.s2.ok y (by simp)).q0
  rw [hn] at hnl hvg hf' htr'
  rw [htr'] at htr
  obtain ⟨E1, e1, e1l⟩ := lay_cut (D := D1) (xs := xs) (x := x) (n := n)
  obtain ⟨E2, e2, e2l⟩ := lay_cut (D := D2) (xs := ys) (x := y) (n := n)
  rw [e1] at hL1
  rw [e2] at hL2
  have t1 := h.l1
  have t2 := h.l2
  have tn := h.nb
  simp only [List.length_cons] at t1 t2 tn
  have k1 : i' + (cut x n xs).length = n1 := by
    rw [hi]; unfold cut
    by_cases e : x.qt = n
    · rw [if_pos e, if_pos e]; omega
    · rw [if_neg e, if_neg e, List.length_cons]; omega
  have k2 : j' + (cut y n ys).length = n2 := by
    rw [hj]; unfold cut
    by_cases e : y.qt = n
    · rw [if_pos e, if_pos e]; omega
    · rw [if_neg e, if_neg e, List.length_cons]; omega
  have k3 : (cut x n xs).length + (cut y n ys).length ≤ xs.length + ys.length + 1 := by
    have : x.qt = n ∨ y.qt = n := by omega
    unfold cut
    rcases this with e | e
    · rw [if_pos e]; split <;> simp <;> omega
    · rw [if_pos e]; split <;> simp <;> omega
  refine ⟨⟨E1, by rw [e1l, hi, hD1], hL1⟩, ⟨E2, by rw [e2l, hj, hD2], hL2⟩, k1, k2, ?_, by rw [List.length_append, h.fl]; rfl, ⟨f', hf', ?_⟩, hvg, h.s1.cut (by omega) (by omega), h.s2.cut (by omega) (by omega), hk, by omega⟩
  · rw [frs_app]
    have : frs [(⟨x.id, y.id, p, n⟩ : Fi)] = frow ⟨x.id, y.id, p, n⟩ := by simp [frs]
    rw [this]
    exact hf
  · rw [htr]
    simp
theorem traded_any (B : Nat) (r m : Int) (p1 : Option Addr) (c1 : Nat) (b : List It) (p2 : Option Addr) (c2 : Nat) (s : List It) (z : Qt) (w : World) (h : Cl w B r m p1 c1 b p2 c2 s) (hv : Vg z.vo b s) :
    Calls Tryz.prog 42 #[.pointer (some ⟨B, 0, none⟩), .agg #[.int .i64 z.pr, .int .u64 z.vo, .int .u64 z.su, .int .i64 z.sd, .int .i64 z.ru]] w fun e w' => ∃ pf cf, e = .returned (.slice pf (trd z.pr (b.length + s.length) z.vo b s).1.length cf) ∧ w'.ownsRow w.heap.size 67 4 (.slice pf (trd z.pr (b.length + s.length) z.vo b s).1.length cf) (trd z.pr (b.length + s.length) z.vo b s).1.length (frs (trd z.pr (b.length + s.length) z.vo b s).1) ∧ Cl w' B r m p1 c1 (trd z.pr (b.length + s.length) z.vo b s).2.1 p2 c2 (trd z.pr (b.length + s.length) z.vo b s).2.2 ∧ Kp (fun g => g = B ∨ OfP p1 g ∨ OfP p2 g) w w' := by
  obtain ⟨R, hR⟩ : ∃ R, w.heap.size = R := ⟨_, rfl⟩
  obtain ⟨W, hW⟩ : ∃ W, w.alloc (.cells #[.int .i64 z.pr, .int .u64 z.vo, .int .u64 z.su, .int .i64 z.sd, .int .i64 z.ru] 57) = W := ⟨_, rfl⟩
  have HBW := hid (show Below w.heap.size w W from by rw [← hW]; exact ball _ _)
  have HZ := hid (show W.heap[R]? = some (.cells #[.int .i64 z.pr, .int .u64 z.vo, .int .u64 z.su, .int .i64 z.sd, .int .i64 z.ru] 57 (0, 0)) from by rw [← hW, ← hR]; exact World.alloc_heap_new _ _)
  have HC := hid (h.on HBW.out)
  have HC0 := hid h
  have O1 := hid (fun U => of1' B 1 rfl U)
  have O2 := hid (fun U => of2' B 2 rfl U)
  have hb1 := h.s1.ln
  have hs1 := h.s2.ln
  obtain ⟨n1, hn1⟩ : ∃ n, b.length = n := ⟨_, rfl⟩
  obtain ⟨n2, hn2⟩ : ∃ n, s.length = n := ⟨_, rfl⟩
  have HN1 := hid hn1
  have HN2 := hid hn2
  rw [hn1] at hb1
  rw [hn2] at hs1
  have HT0 := hid (show Tb W W B z.pr (b.length + s.length) z.vo b s p1 c1 n1 p2 c2 n2 0 0 0 z.vo none 0 b s [] from ⟨⟨[], rfl, HC.out.l1⟩, ⟨[], rfl, HC.out.l2⟩, by omega, by omega, ⟨rfl, .inl ⟨rfl, rfl⟩⟩, rfl, ⟨_, Nat.le_refl _, rfl⟩, hv, h.s1, h.s2, Kp.refl _ _, by omega⟩)
  have HBT := hid (show ∀ g, OfP p1 g ∨ OfP p2 g → ∃ cu, W.heap[g]? = some (.cells cu 35 (0, 0)) from fun g hg => hg.elim (fun e => HC.out.l1.ty e) (fun e => HC.out.l2.ty e))
  obtain ⟨z0, z1, z2, z3, z4⟩ := row5 HZ.out
  have HW := hid hW
  have HRR := hid hR
  clear h hv hW hR hn1 hn2
  go_enter Tryz.func42, Tryz.ntmps42
  go_upto_region 1 with fail
  rw [HW.out, HRR.out]
  go_wp2_with (first | (go_at_call 30; with_reducible refine (O1.out _).mono ?_; rintro e w1 ⟨rfl, rfl⟩) | (go_at_call 30; with_reducible refine (O2.out _).mono ?_; rintro e w1 ⟨rfl, rfl⟩))
  clear z0 z1 z2 z3 z4
  go_loopw [7, 8, 9, 10] (fun fv iv jv lv wr => ∃ (pf : Option Addr) (cf nf i j : Nat) (left : Int) (xs ys : List It) (F : List Fi), fv = .slice pf nf cf ∧ iv = .int .i64 i ∧ jv = .int .i64 j ∧ lv = .int .u64 left ∧ Hid (Tb W wr B z.pr (b.length + s.length) z.vo b s p1 c1 n1 p2 c2 n2 i j nf left pf cf xs ys F)) (fun _ _ _ lv _ => (intOf lv).toNat)
  case atStart => exact ⟨none, 0, 0, 0, 0, z.vo, b, s, [], rfl, rfl, rfl, rfl, HT0⟩
  case round =>
    obtain ⟨pf, cf, nf, i, j, left, xs, ys, F, rfl, rfl, rfl, rfl, HT⟩ := hrel
    by_cases hlt : 0 < left
    · have hvp := HT.out.vg.pos hlt
      obtain ⟨D1, hD1, hL1⟩ := HT.out.D1
      obtain ⟨D2, hD2, hL2⟩ := HT.out.D2
      have t1 := HT.out.l1
      have t2 := HT.out.l2
      have hs1' := HT.out.s1
      have hs2' := HT.out.s2
      have hvg := HT.out.vg
      obtain ⟨f, hf, htr⟩ := HT.out.tr
      cases xs with
      | nil => simp at hvp
      | cons x xs =>
      cases ys with
      | nil => simp at hvp
      | cons y ys =>
      obtain ⟨hnl, hvg'⟩ := hvg.step hs1' hs2' hlt
      obtain ⟨f', hff, hf', htr'⟩ := trd_step (p := z.pr) hlt hf
      rw [htr'] at htr
      have qx := (hs1'.ok x (by simp)).q0
      have qx1 := (hs1'.ok x (by simp)).q1
      have qy := (hs2'.ok y (by simp)).q0
      have qy1 := (hs2'.ok y (by simp)).q1
      obtain ⟨n, hn⟩ : ∃ n, min x.qt y.qt = n := ⟨_, rfl⟩
      rw [hn] at hnl hvg' hf' htr
      have n0 : 1 ≤ n := by omega
      have nx : n ≤ x.qt := by omega
      have ny : n ≤ y.qt := by omega
      have HNB := hid HT.out.nb
      have hle1 : (D1 ++ x :: xs).length = n1 := by simp at t1 ⊢; omega
      have hle2 : (D2 ++ y :: ys).length = n2 := by simp at t2 ⊢; omega
      obtain ⟨hi1, hx1⟩ := at_len (x := x) (xs := xs) hD1
      obtain ⟨hj1, hy1⟩ := at_len (x := y) (xs := ys) hD2
      obtain ⟨g1, e1, a0, a1, a2, a3, a4, a5⟩ := hL1.cells hi1
      obtain ⟨g2, e2, b0, b1, b2, b3, b4, b5⟩ := hL2.cells hj1
      subst e1
      subst e2
      rw [hx1] at a0 a1 a2 a3 a4 a5
      rw [hy1] at b0 b1 b2 b3 b4 b5
      obtain ⟨cu1, hg1⟩ := hL1.ty (OfP.mk g1)
      obtain ⟨cu2, hg2⟩ := hL2.ty (OfP.mk g2)
      have hgg : g1 ≠ g2 := fun e => HC.out.ap g1 (OfP.mk g1) (by rw [e]; exact OfP.mk g2)
      have hkp := HT.out.kp
      have HKW := hid hkp
      have HNM := hid hn
      have hvgb : left ≤ 17592186044416 := by have e1 := hvg.a; have e2 := tot_bound (s := 1) hs1'.ok; have e3 := hs1'.ln; omega
      have HBR := hid (hkp.row HC.out.row (fun e => by obtain ⟨cu, hc⟩ := HBT.out B e; exact row_ne hc HC.out.row (by decide) rfl))
      have HZR := hid (hkp.row HZ.out (fun e => by obtain ⟨cu, hc⟩ := HBT.out R e; exact row_ne hc HZ.out (by decide) rfl))
      have HG1 := hid hg1
      have HG2 := hid hg2
      have HL1 := hid hL1
      have HL2 := hid hL2
      have HS := hid (show ∀ U, Below wr.heap.size wr U → U.cell? ⟨B, 2, none⟩ = some (.slice (some ⟨g1, 0, none⟩) n1 c1) ∧ U.cell? ⟨B, 3, none⟩ = some (.slice (some ⟨g2, 0, none⟩) n2 c2) ∧ U.cell? ⟨g1, i * 6, none⟩ = some (.int .u64 x.id) ∧ U.cell? ⟨g1, i * 6 + 1, none⟩ = some (.int .u32 x.mb) ∧ U.cell? ⟨g1, i * 6 + 2, none⟩ = some (.int .i64 x.sd) ∧ U.cell? ⟨g1, i * 6 + 3, none⟩ = some (.int .i64 x.ty) ∧ U.cell? ⟨g1, i * 6 + 4, none⟩ = some (.int .i64 x.pr) ∧ U.cell? ⟨g1, i * 6 + 5, none⟩ = some (.int .u64 x.qt) ∧ U.cell? ⟨g2, j * 6, none⟩ = some (.int .u64 y.id) ∧ U.cell? ⟨g2, j * 6 + 1, none⟩ = some (.int .u32 y.mb) ∧ U.cell? ⟨g2, j * 6 + 2, none⟩ = some (.int .i64 y.sd) ∧ U.cell? ⟨g2, j * 6 + 3, none⟩ = some (.int .i64 y.ty) ∧ U.cell? ⟨g2, j * 6 + 4, none⟩ = some (.int .i64 y.pr) ∧ U.cell? ⟨g2, j * 6 + 5, none⟩ = some (.int .u64 y.qt) from fun U hU => by
        obtain ⟨_, _, k2, k3⟩ := row4 (row_on HBR.out hU)
        rw [HN1.out] at k2
        rw [HN2.out] at k3
        exact ⟨k2, k3, (hU.cell (p := ⟨g1, i * 6, none⟩) (row_lt hg1)).trans a0, (hU.cell (p := ⟨g1, i * 6 + 1, none⟩) (row_lt hg1)).trans a1, (hU.cell (p := ⟨g1, i * 6 + 2, none⟩) (row_lt hg1)).trans a2, (hU.cell (p := ⟨g1, i * 6 + 3, none⟩) (row_lt hg1)).trans a3, (hU.cell (p := ⟨g1, i * 6 + 4, none⟩) (row_lt hg1)).trans a4, (hU.cell (p := ⟨g1, i * 6 + 5, none⟩) (row_lt hg1)).trans a5, (hU.cell (p := ⟨g2, j * 6, none⟩) (row_lt hg2)).trans b0, (hU.cell (p := ⟨g2, j * 6 + 1, none⟩) (row_lt hg2)).trans b1, (hU.cell (p := ⟨g2, j * 6 + 2, none⟩) (row_lt hg2)).trans b2, (hU.cell (p := ⟨g2, j * 6 + 3, none⟩) (row_lt hg2)).trans b3, (hU.cell (p := ⟨g2, j * 6 + 4, none⟩) (row_lt hg2)).trans b4, (hU.cell (p := ⟨g2, j * 6 + 5, none⟩) (row_lt hg2)).trans b5⟩)
      have u1 : (0 : Int) ≤ (i : Int) := by omega
      have u2 : (i : Int) < (n1 : Int) := by omega
      have u3 : (0 : Int) ≤ (j : Int) := by omega
      have u4 : (j : Int) < (n2 : Int) := by omega
      have sB := row_lt HBR.out
      have sg1 := row_lt hg1
      have sg2 := row_lt hg2
      clear a0 a1 a2 a3 a4 a5 b0 b1 b2 b3 b4 b5 hg1 hg2 hL1 hL2 hkp hvp
      go_upto_region 6 with fail
      obtain ⟨k0, k1, k2, k3, k4, k5, k6, k7, k8, k9, k10, k11, k12, k13⟩ := HS.out wr (Below.refl _ _)
      go_region_held3 (fun U => U.cell? ⟨B, 2, none⟩ = some (.slice (some ⟨g1, 0, none⟩) n1 c1) ∧ U.cell? ⟨B, 3, none⟩ = some (.slice (some ⟨g2, 0, none⟩) n2 c2) ∧ U.cell? ⟨g1, i * 6, none⟩ = some (.int .u64 x.id) ∧ U.cell? ⟨g1, i * 6 + 1, none⟩ = some (.int .u32 x.mb) ∧ U.cell? ⟨g1, i * 6 + 2, none⟩ = some (.int .i64 x.sd) ∧ U.cell? ⟨g1, i * 6 + 3, none⟩ = some (.int .i64 x.ty) ∧ U.cell? ⟨g1, i * 6 + 4, none⟩ = some (.int .i64 x.pr) ∧ U.cell? ⟨g1, i * 6 + 5, none⟩ = some (.int .u64 x.qt) ∧ U.cell? ⟨g2, j * 6, none⟩ = some (.int .u64 y.id) ∧ U.cell? ⟨g2, j * 6 + 1, none⟩ = some (.int .u32 y.mb) ∧ U.cell? ⟨g2, j * 6 + 2, none⟩ = some (.int .i64 y.sd) ∧ U.cell? ⟨g2, j * 6 + 3, none⟩ = some (.int .i64 y.ty) ∧ U.cell? ⟨g2, j * 6 + 4, none⟩ = some (.int .i64 y.pr) ∧ U.cell? ⟨g2, j * 6 + 5, none⟩ = some (.int .u64 y.qt)) (go_keep) (fail)
      focus
        obtain ⟨β, hβ⟩ : ∃ g, wr.heap.size + 1 = g := ⟨_, rfl⟩
        obtain ⟨α, hα⟩ : ∃ g, wr.heap.size = g := ⟨_, rfl⟩
        obtain ⟨X, hX⟩ : ∃ U, ((wr.alloc (.cells #[.int .u64 x.id, .int .u32 x.mb, .int .i64 x.sd, .int .i64 x.ty, .int .i64 x.pr, .int .u64 x.qt] 35)).alloc (.cells #[.int .u64 y.id, .int .u32 y.mb, .int .i64 y.sd, .int .i64 y.ty, .int .i64 y.pr, .int .u64 y.qt] 35)).drew = U := ⟨_, rfl⟩
        have BX := hid (show Below wr.heap.size wr X from by rw [← hX]; exact btr (btr (ball _ _) (ball _ _)) (bdrew1 _))
        have HA := hid (show X.heap[α]? = some (.cells #[.int .u64 x.id, .int .u32 x.mb, .int .i64 x.sd, .int .i64 x.ty, .int .i64 x.pr, .int .u64 x.qt] 35 (0, 0)) from by rw [← hX, ← hα]; exact row_on (row_on (World.alloc_heap_new _ _) (ball _ _)) (bdrew1 _))
        have HY := hid (show X.heap[β]? = some (.cells #[.int .u64 y.id, .int .u32 y.mb, .int .i64 y.sd, .int .i64 y.ty, .int .i64 y.pr, .int .u64 y.qt] 35 (0, 0)) from by
          rw [← hX, ← hβ]
          have := World.alloc_heap_new (wr.alloc (.cells #[.int .u64 x.id, .int .u32 x.mb, .int .i64 x.sd, .int .i64 x.ty, .int .i64 x.pr, .int .u64 x.qt] 35)) (.cells #[.int .u64 y.id, .int .u32 y.mb, .int .i64 y.sd, .int .i64 y.ty, .int .i64 y.pr, .int .u64 y.qt] 35)
          exact row_on (by simpa using this) (bdrew1 _))
        rw [hX, hβ, hα]
        clear hX hα hβ k0 k1 k2 k3 k4 k5 k6 k7 k8 k9 k10 k11 k12 k13
      rotate_left
      focus
        obtain ⟨α, hα⟩ : ∃ g, wr.heap.size + 1 = g := ⟨_, rfl⟩
        obtain ⟨β, hβ⟩ : ∃ g, wr.heap.size = g := ⟨_, rfl⟩
        obtain ⟨X, hX⟩ : ∃ U, ((wr.alloc (.cells #[.int .u64 y.id, .int .u32 y.mb, .int .i64 y.sd, .int .i64 y.ty, .int .i64 y.pr, .int .u64 y.qt] 35)).alloc (.cells #[.int .u64 x.id, .int .u32 x.mb, .int .i64 x.sd, .int .i64 x.ty, .int .i64 x.pr, .int .u64 x.qt] 35)).drew = U := ⟨_, rfl⟩
        have BX := hid (show Below wr.heap.size wr X from by rw [← hX]; exact btr (btr (ball _ _) (ball _ _)) (bdrew1 _))
        have HA := hid (show X.heap[α]? = some (.cells #[.int .u64 x.id, .int .u32 x.mb, .int .i64 x.sd, .int .i64 x.ty, .int .i64 x.pr, .int .u64 x.qt] 35 (0, 0)) from by
          rw [← hX, ← hα]
          have := World.alloc_heap_new (wr.alloc (.cells #[.int .u64 y.id, .int .u32 y.mb, .int .i64 y.sd, .int .i64 y.ty, .int .i64 y.pr, .int .u64 y.qt] 35)) (.cells #[.int .u64 x.id, .int .u32 x.mb, .int .i64 x.sd, .int .i64 x.ty, .int .i64 x.pr, .int .u64 x.qt] 35)
          exact row_on (by simpa using this) (bdrew1 _))
        have HY := hid (show X.heap[β]? = some (.cells #[.int .u64 y.id, .int .u32 y.mb, .int .i64 y.sd, .int .i64 y.ty, .int .i64 y.pr, .int .u64 y.qt] 35 (0, 0)) from by rw [← hX, ← hβ]; exact row_on (row_on (World.alloc_heap_new _ _) (ball _ _)) (bdrew1 _))
        rw [hX, hα, hβ]
        clear hX hα hβ k0 k1 k2 k3 k4 k5 k6 k7 k8 k9 k10 k11 k12 k13
      all_goals (
        obtain ⟨x0, x1, x2, x3, x4, x5⟩ := row6 HA.out
        obtain ⟨y0, y1, y2, y3, y4, y5⟩ := row6 HY.out
        obtain ⟨z0, z1, z2, z3, z4⟩ := row5 (row_on HZR.out BX.out)
        have HOW := hid (own_on HT.out.fo (btr BX.out (ball X (.cells #[.int .u64 x.id, .int .u64 y.id, .int .i64 z.pr, .int .u64 n] 67))))
        have HON := hid (made4 X ⟨x.id, y.id, z.pr, n⟩)
        have wl : IntKind.u64.wrap (left - n) = left - n := by rw [IntKind.wrap_u64]; have := hvgb; omega
        have hnb := HNB.out
        simp only [List.length_cons] at hnb
        have hWX := Nat.le_trans HKW.out.size BX.out.size
        go_upto_region 10 with (at_builtin; refine wpList_app_mine (by rfl) (.tmp 39) (.tmp 48) 60 67 _ 4 32 (by rfl) Tryz.underlying60 infoF rfl (by decide) W.heap.size 0 _ nf _ (by rfl) HOW.out _ 1 1 _ (by rfl) HON.out (frow_one _) (by unfold maxLen; omega) (by omega) (by simp; omega) ?_; intro v' w4 hown hgrow; obtain ⟨p9, q9, rfl⟩ := own_form hown; have HO4 := hid hown; have KZ := hid (grow_kp hgrow); clear hown hgrow)
        clear x0 x1 x2 x3 x4 x5 y0 y1 y2 y3 y4 y5 z0 z1 z2 z3 z4
        have HFT := hid (show ∀ k, (Value.slice pf nf cf).ownBlock = some k → W.heap.size ≤ k ∧ ∃ cu, X.heap[k]? = some (.cells cu 67 (0, 0)) from fun k hk => ⟨own_ge HT.out.fo hk, own_ty (own_on HT.out.fo BX.out) hk⟩)
        have HBZ := hid (KZ.out.row (row_on HBR.out BX.out) (fun e => by obtain ⟨_, cu, hc⟩ := HFT.out B e; exact row_ne hc (row_on HBR.out BX.out) (by decide) rfl))
        have HL1Z := hid ((HL1.out.on BX.out).kept KZ.out (fun g hg e => by obtain ⟨_, cu, hc⟩ := HFT.out g e; obtain ⟨cu2, hc2⟩ := (HL1.out.on BX.out).ty hg; exact row_ne hc hc2 (by decide) rfl))
        have HL2Z := hid ((HL2.out.on BX.out).kept KZ.out (fun g hg e => by obtain ⟨_, cu, hc⟩ := HFT.out g e; obtain ⟨cu2, hc2⟩ := (HL2.out.on BX.out).ty hg; exact row_ne hc hc2 (by decide) rfl))
        have HKZ := hid (show Kp (fun g => OfP (some ⟨g1, 0, none⟩) g ∨ OfP (some ⟨g2, 0, none⟩) g) W w4 from (HKW.out.trans (Kp.of (fun g => OfP (some ⟨g1, 0, none⟩) g ∨ OfP (some ⟨g2, 0, none⟩) g) BX.out) (fun _ _ h => h)).trans KZ.out (fun g hg e => absurd (HFT.out g e).1 (by omega)))
        have CT1 := hid (take_any (some ⟨g1, 0, none⟩) c1 (D1 ++ x :: xs) i n w4 HL1Z.out hi1 (by omega) (by rw [hx1]; exact nx) (by rw [hx1]; exact qx1))
        rw [hx1, hle1, set_len hD1] at CT1
        have HO6 := hid (show ∀ U, Kp (fun g => OfP (some ⟨g1, 0, none⟩) g ∨ OfP (some ⟨g2, 0, none⟩) g) w4 U → U.ownsRow W.heap.size 67 4 (.slice p9 (nf + 1) q9) (nf + 1) (frs F ++ frow ⟨x.id, y.id, z.pr, n⟩) from fun U hU => own_same HO4.out (fun k hk => by
          obtain ⟨cu, hc⟩ := own_ty HO4.out hk
          refine hU.obj k (row_lt hc) (fun e => e.elim (fun e => ?_) (fun e => ?_))
          · obtain ⟨cu2, hc2⟩ := HL1Z.out.ty e; exact row_ne hc hc2 (by decide) rfl
          · obtain ⟨cu2, hc2⟩ := HL2Z.out.ty e; exact row_ne hc hc2 (by decide) rfl))
        have HK5 := hid (show ∀ U, Kp (OfP (some ⟨g1, 0, none⟩)) w4 U → U.heap[B]? = some (.cells #[.int .i64 r, .int .i64 m, .slice (some ⟨g1, 0, none⟩) b.length c1, .slice (some ⟨g2, 0, none⟩) s.length c2] 74 (0, 0)) ∧ Li U (some ⟨g2, 0, none⟩) c2 (D2 ++ y :: ys) from fun U hU => ⟨hU.row HBZ.out (fun e => by obtain ⟨cu, hc⟩ := HL1Z.out.ty e; exact row_ne hc HBZ.out (by decide) rfl), HL2Z.out.kept hU (fun g hg e => by have e1 := hg.eq; have e2 := e.eq; omega)⟩)
        have CT2 := hid (fun (U : World) (hU : Kp (OfP (some ⟨g1, 0, none⟩)) w4 U) => take_any (some ⟨g2, 0, none⟩) c2 (D2 ++ y :: ys) j n U (HK5.out U hU).2 hj1 (by omega) (by rw [hy1]; exact ny) (by rw [hy1]; exact qy1))
        rw [hy1, hle2, set_len hD2] at CT2
        obtain ⟨k0, k1, k2, k3⟩ := row4 HBZ.out
        rw [HN1.out] at k2
        rw [HN2.out] at k3
        have HKC := hid (show ∀ U, Kp (OfP (some ⟨g1, 0, none⟩)) w4 U → U.cell? ⟨B, 3, none⟩ = some (.slice (some ⟨g2, 0, none⟩) n2 c2) from fun U hU => by obtain ⟨_, _, _, k3⟩ := row4 (HK5.out U hU).1; rw [HN2.out] at k3; exact k3)
        have HFIN := hid (show ∀ (w5 w6 : World) (i' j' : Nat), (i' = if x.qt = n then i + 1 else i) → (j' = if y.qt = n then j + 1 else j) → Li w5 (some ⟨g1, 0, none⟩) c1 (D1 ++ lss x n :: xs) → Kp (OfP (some ⟨g1, 0, none⟩)) w4 w5 → Li w6 (some ⟨g2, 0, none⟩) c2 (D2 ++ lss y n :: ys) → Kp (OfP (some ⟨g2, 0, none⟩)) w5 w6 → Tb W w6 B z.pr (b.length + s.length) z.vo b s (some ⟨g1, 0, none⟩) c1 n1 (some ⟨g2, 0, none⟩) c2 n2 i' j' (nf + 1) (left - n) p9 q9 (cut x n xs) (cut y n ys) (F ++ [⟨x.id, y.id, z.pr, n⟩]) from fun w5 w6 i' j' e1 e2 l5 k5 l6 k6 => by
          have k56 : Kp (fun g => OfP (some ⟨g1, 0, none⟩) g ∨ OfP (some ⟨g2, 0, none⟩) g) w4 w6 := (k5.mono (fun g _ h => .inl h)).trans k6 (fun g _ h => .inr h)
          exact HT.out.next hlt HNM.out e1 e2 ⟨D1, hD1, l5.kept k6 (fun g hg e => by have a1 := hg.eq; have a2 := e.eq; omega)⟩ ⟨D2, hD2, l6⟩ (HO6.out w6 k56) (HKZ.out.trans k56 (fun _ _ h => h)))
        have HXY := hid (show x.qt = n ∨ y.qt = n from by have := HNM.out; omega)
        by_cases cx : x.qt = n
        · rw [decide_eq_true cx] at CT1
          by_cases cy : y.qt = n
          · rw [decide_eq_true cy] at CT2
            have CX := hid cx
            have CY := hid cy
            clear cx cy
            go_wp2_with (first | (go_at_call 70; with_reducible refine (CT1.out).mono ?_; rintro e w5 ⟨rfl, l5, k5⟩; have L5 := hid l5; have K5 := hid k5; have kc := HKC.out w5 k5; clear l5 k5) | (go_at_call 70; with_reducible refine (CT2.out _ K5.out).mono ?_; rintro e w6 ⟨rfl, l6, k6⟩; have L6 := hid l6; have K6 := hid k6; clear l6 k6))
            go_roundw
            case rel => exact ⟨p9, q9, nf + 1, i + 1, j + 1, left - n, _, _, _, rfl, by go_num, by go_num, rfl, hid (HFIN.out w5 w6 _ _ (by rw [if_pos CX.out]) (by rw [if_pos CY.out]) L5.out K5.out L6.out K6.out)⟩
            case measure => simp [intOf]; omega
          · rw [decide_eq_false cy] at CT2
            have CX := hid cx
            have CY := hid cy
            clear cx cy
            go_wp2_with (first | (go_at_call 70; with_reducible refine (CT1.out).mono ?_; rintro e w5 ⟨rfl, l5, k5⟩; have L5 := hid l5; have K5 := hid k5; have kc := HKC.out w5 k5; clear l5 k5) | (go_at_call 70; with_reducible refine (CT2.out _ K5.out).mono ?_; rintro e w6 ⟨rfl, l6, k6⟩; have L6 := hid l6; have K6 := hid k6; clear l6 k6))
            go_roundw
            case rel => exact ⟨p9, q9, nf + 1, i + 1, j, left - n, _, _, _, rfl, by go_num, by go_num, rfl, hid (HFIN.out w5 w6 _ _ (by rw [if_pos CX.out]) (by rw [if_neg CY.out]) L5.out K5.out L6.out K6.out)⟩
            case measure => simp [intOf]; omega
        · rw [decide_eq_false cx] at CT1
          by_cases cy : y.qt = n
          · rw [decide_eq_true cy] at CT2
            have CX := hid cx
            have CY := hid cy
            clear cx cy
            go_wp2_with (first | (go_at_call 70; with_reducible refine (CT1.out).mono ?_; rintro e w5 ⟨rfl, l5, k5⟩; have L5 := hid l5; have K5 := hid k5; have kc := HKC.out w5 k5; clear l5 k5) | (go_at_call 70; with_reducible refine (CT2.out _ K5.out).mono ?_; rintro e w6 ⟨rfl, l6, k6⟩; have L6 := hid l6; have K6 := hid k6; clear l6 k6))
            go_roundw
            case rel => exact ⟨p9, q9, nf + 1, i, j + 1, left - n, _, _, _, rfl, by go_num, by go_num, rfl, hid (HFIN.out w5 w6 _ _ (by rw [if_neg CX.out]) (by rw [if_pos CY.out]) L5.out K5.out L6.out K6.out)⟩
            case measure => simp [intOf]; omega
          · exact absurd HXY.out (fun e => e.elim cx cy))
    · obtain rfl : left = 0 := by have := HT.out.vg.ge; omega
      obtain ⟨f, hf, htr⟩ := HT.out.tr
      rw [trd_zero] at htr
      simp only [List.append_nil] at htr
      have HTR := hid htr
      obtain ⟨D1, hD1, hL1⟩ := HT.out.D1
      obtain ⟨D2, hD2, hL2⟩ := HT.out.D2
      have t1 := HT.out.l1
      have t2 := HT.out.l2
      have hle1 : (D1 ++ xs).length = n1 := by simp at t1 ⊢; omega
      have hle2 : (D2 ++ ys).length = n2 := by simp at t2 ⊢; omega
      have hdr1 : (D1 ++ xs).drop i = xs := by rw [← hD1]; simp
      have hdr2 : (D2 ++ ys).drop j = ys := by rw [← hD2]; simp
      have hkp := HT.out.kp
      have HKW := hid hkp
      have HBR := hid (hkp.row HC.out.row (fun e => by obtain ⟨cu, hc⟩ := HBT.out B e; exact row_ne hc HC.out.row (by decide) rfl))
      have CD1 := hid (fun (U : World) (hU : Below wr.heap.size wr U) => dl_any p1 c1 (D1 ++ xs) i U (hL1.on hU) (by rw [hle1]; omega) (by rw [hle1]; omega))
      have CD2 := hid (fun (U : World) (hU : Li U p2 c2 (D2 ++ ys)) => dl_any p2 c2 (D2 ++ ys) j U hU (by rw [hle2]; omega) (by rw [hle2]; omega))
      rw [hle1, hdr1] at CD1
      rw [hle2, hdr2] at CD2
      have HL2 := hid hL2
      have HL1 := hid hL1
      obtain ⟨m1, hm1⟩ : ∃ n, xs.length = n := ⟨_, rfl⟩
      obtain ⟨m2, hm2⟩ : ∃ n, ys.length = n := ⟨_, rfl⟩
      have HM1 := hid hm1
      have HM2 := hid hm2
      rw [hm1] at CD1
      rw [hm2] at CD2
      have HAP := hid (show ∀ g, OfP p1 g → ¬ OfP p2 g from HC.out.ap)
      clear htr hD1 hD2 hL1 hL2 t1 t2 hle1 hle2 hdr1 hdr2 hkp hf hm1 hm2
      go_upto_region 14 with fail
      obtain ⟨Y0, hY0⟩ : ∃ X, wr.drew = X := ⟨_, rfl⟩
      have BY := hid (show Below wr.heap.size wr Y0 from by rw [← hY0]; exact bdrew1 _)
      have HBY := hid (row_on HBR.out BY.out)
      have HBC := hid (show ∀ U : World, U.heap[B]? = Y0.heap[B]? → U.cell? ⟨B, 2, none⟩ = some (.slice p1 n1 c1) ∧ U.cell? ⟨B, 3, none⟩ = some (.slice p2 n2 c2) from fun U e => by
        obtain ⟨_, _, k2, k3⟩ := row4 (e.trans HBY.out)
        rw [HN1.out] at k2
        rw [HN2.out] at k3
        exact ⟨k2, k3⟩)
      have HPB := hid (show (∀ g, OfP p1 g → g ≠ B) ∧ (∀ g, OfP p2 g → g ≠ B) from ⟨fun g hg => by obtain ⟨cu, hc⟩ := HL1.out.ty hg; exact row_ne hc HBR.out (by decide), fun g hg => by obtain ⟨cu, hc⟩ := HL2.out.ty hg; exact row_ne hc HBR.out (by decide)⟩)
      refine wp_region_held_drew (S := (fun _ => True)) (by kernel_rfl) ?_ (fun hHeld => ?_)
      · trivial
      rw [hY0]
      clear hY0
      refine' wpAnyH_take (i := 0) (oi := _) (v := _) rfl (by kernel_rfl) (by kernel_rfl) (by kernel_rfl) (fun _ _ _ h => h) (Or.inl ⟨by kernel_rfl, ?_⟩) (by assumption) ?_
      rotate_left
      · (intro w hSw; (try dsimp only at hSw); go_simp; try (with_reducible rfl))
      try simp only [List.getElem_toArray, List.getElem_cons_succ, List.getElem_cons_zero, Act.put, List.setIfInBounds_toArray, List.set_cons_zero, List.set_cons_succ]
      refine' wpAnyH_take (i := 1) (oi := _) (v := _) rfl (by kernel_rfl) (by kernel_rfl) (by kernel_rfl) (fun _ _ _ h => h) (Or.inl ⟨by kernel_rfl, ?_⟩) (by assumption) ?_
      rotate_left
      · (intro w hSw; (try dsimp only at hSw); go_simp; try (with_reducible rfl))
      try simp only [List.getElem_toArray, List.getElem_cons_succ, List.getElem_cons_zero, Act.put, List.setIfInBounds_toArray, List.set_cons_zero, List.set_cons_succ]
      refine' wpAnyH_take (i := 2) (oi := _) (v := _) rfl (by kernel_rfl) (by kernel_rfl) (by kernel_rfl) (fun _ _ _ h => h) (Or.inl ⟨by kernel_rfl, ?_⟩) (by assumption) ?_
      rotate_left
      · (intro w hSw; (try dsimp only at hSw); go_simp; try (with_reducible rfl))
      try simp only [List.getElem_toArray, List.getElem_cons_succ, List.getElem_cons_zero, Act.put, List.setIfInBounds_toArray, List.set_cons_zero, List.set_cons_succ]
      refine' wpAnyH_take (i := 3) (oi := _) (v := _) rfl (by kernel_rfl) (by kernel_rfl) (by kernel_rfl) (fun _ _ _ h => h) (Or.inl ⟨by kernel_rfl, ?_⟩) (by assumption) ?_
      rotate_left
      · (intro w hSw; (try dsimp only at hSw); go_simp; try (with_reducible rfl))
      try simp only [List.getElem_toArray, List.getElem_cons_succ, List.getElem_cons_zero, Act.put, List.setIfInBounds_toArray, List.set_cons_zero, List.set_cons_succ]
      refine' wpAnyH_take (i := 5) (oi := _) (v := _) rfl (by kernel_rfl) (by kernel_rfl) (by kernel_rfl) (fun _ _ _ h => h) (Or.inl ⟨by kernel_rfl, ?_⟩) (by assumption) ?_
      rotate_left
      · (intro w hSw; (try dsimp only at hSw); go_simp; try (with_reducible rfl))
      try simp only [List.getElem_toArray, List.getElem_cons_succ, List.getElem_cons_zero, Act.put, List.setIfInBounds_toArray, List.set_cons_zero, List.set_cons_succ]
      refine' wpAnyH_take (i := 7) (oi := _) (v := _) rfl (by kernel_rfl) (by kernel_rfl) (by kernel_rfl) (fun _ _ _ h => h) (Or.inl ⟨by kernel_rfl, ?_⟩) (by assumption) ?_
      rotate_left
      · (intro w hSw; (try dsimp only at hSw); go_simp; try (with_reducible rfl))
      try simp only [List.getElem_toArray, List.getElem_cons_succ, List.getElem_cons_zero, Act.put, List.setIfInBounds_toArray, List.set_cons_zero, List.set_cons_succ]
      refine' wpAnyH_take (i := 8) (oi := _) (v := _) rfl (by kernel_rfl) (by kernel_rfl) (by kernel_rfl) (fun _ _ _ h => h) (Or.inl ⟨by kernel_rfl, ?_⟩) (by assumption) ?_
      rotate_left
      · (intro w hSw; (try dsimp only at hSw); go_simp; try (with_reducible rfl))
      try simp only [List.getElem_toArray, List.getElem_cons_succ, List.getElem_cons_zero, Act.put, List.setIfInBounds_toArray, List.set_cons_zero, List.set_cons_succ]
      refine' wpAnyH_take (i := 10) (oi := _) (v := _) rfl (by kernel_rfl) (by kernel_rfl) (by kernel_rfl) (fun _ _ _ h => h) (Or.inl ⟨by kernel_rfl, ?_⟩) (by assumption) ?_
      rotate_left
      · (intro w hSw; (try dsimp only at hSw); go_simp; try (with_reducible rfl))
      try simp only [List.getElem_toArray, List.getElem_cons_succ, List.getElem_cons_zero, Act.put, List.setIfInBounds_toArray, List.set_cons_zero, List.set_cons_succ]
      refine wpAnyH_ready (rs := [4, 9]) (by kernel_rfl) (by simp) ?_
      refine (AllReadyH.cons (o := _) rfl (fun KK hK => ?_) (AllReadyH.cons (o := _) rfl (fun KK hK => ?_) AllReadyH.nil))
      focus
        obtain ⟨k2, k3⟩ := HBC.out Y0 rfl
        go_simp
        refine hK.out _ _ trivial (fun hHeld => ?_)
        clear hK k2 k3
        try simp only [List.getElem_toArray, List.getElem_cons_succ, List.getElem_cons_zero, Act.put, List.setIfInBounds_toArray, List.set_cons_zero, List.set_cons_succ]
        refine wpAnyH_ready (rs := [6, 9]) (by kernel_rfl) (by simp) ?_
        refine (AllReadyH.cons (o := _) rfl (fun KK hK => ?_) (AllReadyH.cons (o := _) rfl (fun KK hK => ?_) AllReadyH.nil))
        focus
          go_simp
          go_at_call 55
          refine (CD1.out Y0 BY.out).mono ?_
          rintro e v1 ⟨rfl, h1, h2⟩
          have L1v := hid h1
          have K1v := hid h2
          have L2v := hid ((HL2.out.on BY.out).kept h2 (fun g hg e => HAP.out g e hg))
          have eB1 := hid (show v1.heap[B]? = Y0.heap[B]? from h2.obj B (row_lt HBY.out) (fun e => HPB.out.1 B e rfl))
          clear h1 h2
          (try go_simp)
          refine hK.out _ _ trivial (fun hHeld => ?_)
          clear hK
          try simp only [List.getElem_toArray, List.getElem_cons_succ, List.getElem_cons_zero, Act.put, List.setIfInBounds_toArray, List.set_cons_zero, List.set_cons_succ]
          refine wpAnyH_ready (rs := [9]) (by kernel_rfl) (by simp) ?_
          refine AllReadyH.cons (o := _) rfl (fun KK hK => ?_) AllReadyH.nil
          obtain ⟨k2, k3⟩ := HBC.out v1 eB1.out
          go_simp
          refine hK.out _ _ trivial (fun hHeld => ?_)
          clear hK k2 k3
          try simp only [List.getElem_toArray, List.getElem_cons_succ, List.getElem_cons_zero, Act.put, List.setIfInBounds_toArray, List.set_cons_zero, List.set_cons_succ]
        rotate_left
        focus
          obtain ⟨k2, k3⟩ := HBC.out Y0 rfl
          go_simp
          refine hK.out _ _ trivial (fun hHeld => ?_)
          clear hK k2 k3
          try simp only [List.getElem_toArray, List.getElem_cons_succ, List.getElem_cons_zero, Act.put, List.setIfInBounds_toArray, List.set_cons_zero, List.set_cons_succ]
          refine wpAnyH_ready (rs := [6]) (by kernel_rfl) (by simp) ?_
          refine AllReadyH.cons (o := _) rfl (fun KK hK => ?_) AllReadyH.nil
          go_simp
          go_at_call 55
          refine (CD1.out Y0 BY.out).mono ?_
          rintro e v1 ⟨rfl, h1, h2⟩
          have L1v := hid h1
          have K1v := hid h2
          have L2v := hid ((HL2.out.on BY.out).kept h2 (fun g hg e => HAP.out g e hg))
          have eB1 := hid (show v1.heap[B]? = Y0.heap[B]? from h2.obj B (row_lt HBY.out) (fun e => HPB.out.1 B e rfl))
          clear h1 h2
          (try go_simp)
          refine hK.out _ _ trivial (fun hHeld => ?_)
          clear hK
          try simp only [List.getElem_toArray, List.getElem_cons_succ, List.getElem_cons_zero, Act.put, List.setIfInBounds_toArray, List.set_cons_zero, List.set_cons_succ]
      rotate_left
      rotate_left
      focus
        obtain ⟨k2, k3⟩ := HBC.out Y0 rfl
        go_simp
        refine hK.out _ _ trivial (fun hHeld => ?_)
        clear hK k2 k3
        try simp only [List.getElem_toArray, List.getElem_cons_succ, List.getElem_cons_zero, Act.put, List.setIfInBounds_toArray, List.set_cons_zero, List.set_cons_succ]
        refine wpAnyH_ready (rs := [4]) (by kernel_rfl) (by simp) ?_
        refine AllReadyH.cons (o := _) rfl (fun KK hK => ?_) AllReadyH.nil
        obtain ⟨k2, k3⟩ := HBC.out Y0 rfl
        go_simp
        refine hK.out _ _ trivial (fun hHeld => ?_)
        clear hK k2 k3
        try simp only [List.getElem_toArray, List.getElem_cons_succ, List.getElem_cons_zero, Act.put, List.setIfInBounds_toArray, List.set_cons_zero, List.set_cons_succ]
        refine wpAnyH_ready (rs := [6]) (by kernel_rfl) (by simp) ?_
        refine AllReadyH.cons (o := _) rfl (fun KK hK => ?_) AllReadyH.nil
        go_simp
        go_at_call 55
        refine (CD1.out Y0 BY.out).mono ?_
        rintro e v1 ⟨rfl, h1, h2⟩
        have L1v := hid h1
        have K1v := hid h2
        have L2v := hid ((HL2.out.on BY.out).kept h2 (fun g hg e => HAP.out g e hg))
        have eB1 := hid (show v1.heap[B]? = Y0.heap[B]? from h2.obj B (row_lt HBY.out) (fun e => HPB.out.1 B e rfl))
        clear h1 h2
        (try go_simp)
        refine hK.out _ _ trivial (fun hHeld => ?_)
        clear hK
        try simp only [List.getElem_toArray, List.getElem_cons_succ, List.getElem_cons_zero, Act.put, List.setIfInBounds_toArray, List.set_cons_zero, List.set_cons_succ]
      all_goals (
        refine wpAnyH_ready (rs := [11]) (by kernel_rfl) (by simp) ?_
        refine AllReadyH.cons (o := _) rfl (fun KK hK => ?_) AllReadyH.nil
        go_simp
        go_at_call 55
        refine (CD2.out v1 L2v.out).mono ?_
        rintro e v2 ⟨rfl, h1, h2⟩
        have L2w := hid h1
        have K2w := hid h2
        have L1w := hid (L1v.out.kept h2 (fun g hg e => HAP.out g hg e))
        have eB2 := hid (show v2.heap[B]? = Y0.heap[B]? from (h2.obj B (Nat.lt_of_lt_of_le (row_lt HBY.out) K1v.out.size) (fun e => HPB.out.2 B e rfl)).trans eB1.out)
        clear h1 h2
        (try go_simp)
        refine hK.out _ _ trivial (fun hHeld => ?_)
        clear hK
        try simp only [List.getElem_toArray, List.getElem_cons_succ, List.getElem_cons_zero, Act.put, List.setIfInBounds_toArray, List.set_cons_zero, List.set_cons_succ]
        refine' wpAnyH_take (i := 12) (oi := _) (v := _) rfl (by kernel_rfl) (by kernel_rfl) (by kernel_rfl) (fun _ _ _ h => h) (Or.inl ⟨by kernel_rfl, ?_⟩) (by assumption) ?_
        rotate_left
        · (intro w hSw; (try dsimp only at hSw); go_simp; try (with_reducible rfl))
        try simp only [List.getElem_toArray, List.getElem_cons_succ, List.getElem_cons_zero, Act.put, List.setIfInBounds_toArray, List.set_cons_zero, List.set_cons_succ]
        refine wpAnyH_ready (rs := [13]) (by kernel_rfl) (by simp) ?_
        refine AllReadyH.cons (o := _) rfl (fun KK hK => ?_) AllReadyH.nil
        have hrow2 := eB2.out.trans HBY.out
        obtain ⟨k2, k3⟩ := HBC.out v2 eB2.out
        have kf := row_frz hrow2 2
        go_simp
        refine hK.out _ _ trivial (fun hHeld => ?_)
        clear hK k2 k3 kf
        try simp only [List.getElem_toArray, List.getElem_cons_succ, List.getElem_cons_zero, Act.put, List.setIfInBounds_toArray, List.set_cons_zero, List.set_cons_succ]
        refine' wpAnyH_take (i := 14) (oi := _) (v := _) rfl (by kernel_rfl) (by kernel_rfl) (by kernel_rfl) (fun _ _ _ h => h) (Or.inl ⟨by kernel_rfl, ?_⟩) (by assumption) ?_
        rotate_left
        · (intro w hSw; (try dsimp only at hSw); go_simp; try (with_reducible rfl))
        try simp only [List.getElem_toArray, List.getElem_cons_succ, List.getElem_cons_zero, Act.put, List.setIfInBounds_toArray, List.set_cons_zero, List.set_cons_succ]
        refine wpAnyH_ready (rs := [15]) (by kernel_rfl) (by simp) ?_
        refine AllReadyH.cons (o := _) rfl (fun KK hK => ?_) AllReadyH.nil
        have hrow3 := heap_setCell_same v2 B 2 _ 74 (.slice p1 m1 c1) hrow2
        have k3 := row_cell hrow3 3
        simp only [List.getElem?_toArray, List.setIfInBounds_toArray, List.set_cons_succ, List.set_cons_zero, List.getElem?_cons_succ, List.getElem?_cons_zero] at k3
        have kf := row_frz hrow3 3
        go_simp
        refine hK.out _ _ trivial (fun hHeld => ?_)
        have hrow4 := heap_setCell_same _ B 3 _ 74 (.slice p2 m2 c2) hrow3
        have HR4 := hid hrow4
        clear hK k3 kf hrow2 hrow3 hrow4
        try simp only [List.getElem_toArray, List.getElem_cons_succ, List.getElem_cons_zero, Act.put, List.setIfInBounds_toArray, List.set_cons_zero, List.set_cons_succ]
        refine wpAnyH_done (by kernel_rfl) ?_ _
        clear hHeld
        go_wp2
        go_ret
        have eT := HTR.out
        have f1 : (trd z.pr (b.length + s.length) z.vo b s).1 = F := by rw [eT]
        have f2 : (trd z.pr (b.length + s.length) z.vo b s).2.1 = xs := by rw [eT]
        have f3 : (trd z.pr (b.length + s.length) z.vo b s).2.2 = ys := by rw [eT]
        have hfl := HT.out.fl
        have kq : Kp (fun g => g = B) v2 ((v2.setCell ⟨B, 2, none⟩ (.slice p1 m1 c1)).setCell ⟨B, 3, none⟩ (.slice p2 m2 c2)) := (Kp.set _ _ _ _).trans (Kp.set _ _ _ _) (fun _ _ h => h)
        have kAll : Kp (fun g => g = B ∨ OfP p1 g ∨ OfP p2 g) wr ((v2.setCell ⟨B, 2, none⟩ (.slice p1 m1 c1)).setCell ⟨B, 3, none⟩ (.slice p2 m2 c2)) := (((Kp.of (fun g => g = B ∨ OfP p1 g ∨ OfP p2 g) BY.out).trans K1v.out (fun _ _ h => .inr (.inl h))).trans K2w.out (fun _ _ h => .inr (.inr h))).trans kq (fun _ _ h => .inl h)
        rw [f1, f2, f3, hfl]
        have hc := HC.out
        have mb := hc.mb
        have tl1 := HT.out.l1
        have tl2 := HT.out.l2
        refine ⟨pf, cf, rfl, ?_, ⟨?_, ?_, ?_, HT.out.s1, HT.out.s2, hc.ap, hc.r0, hc.r1, hc.m0, hc.m1, ?_⟩, ?_⟩
        · refine own_base (own_same HT.out.fo (fun k hk => ?_)) HBW.out.size
          obtain ⟨cu, hcu⟩ := own_ty HT.out.fo hk
          refine kAll.obj k (row_lt hcu) (fun e => e.elim (fun e => ?_) (fun e => e.elim (fun e => ?_) (fun e => ?_)))
          · subst e; exact row_ne hcu HBR.out (by decide) rfl
          · obtain ⟨cu2, hc2⟩ := HL1.out.ty e; exact row_ne hcu hc2 (by decide) rfl
          · obtain ⟨cu2, hc2⟩ := HL2.out.ty e; exact row_ne hcu hc2 (by decide) rfl
        · rw [HM1.out, HM2.out]; exact HR4.out
        · exact L1w.out.kept kq (fun g hg e => HPB.out.1 g hg e)
        · exact L2w.out.kept kq (fun g hg e => HPB.out.2 g hg e)
        · rw [HN1.out, HN2.out] at mb
          omega
        · exact ((Kp.of (fun g => g = B ∨ OfP p1 g ∨ OfP p2 g) HBW.out).trans HKW.out (fun _ _ h => .inr h)).trans kAll (fun _ _ h => h))
end Go.Proofs.YtnmkfdndfhefiaaGreat
