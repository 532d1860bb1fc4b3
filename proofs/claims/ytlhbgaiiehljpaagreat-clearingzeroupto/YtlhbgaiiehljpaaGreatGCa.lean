/-
  LwA
-/
import Derived.Test.YtlhbgaiiehljpaaGreatGBz
import Derived.Test.YtlhbgaiiehljpaaGreatCnG
import Derived.Test.YtlhbgaiiehljpaaGreatCnH
import Derived.Test.YtlhbgaiiehljpaaGreatLvU
namespace Go.Proofs.YtlhbgaiiehljpaaGreat.Ac
open Go.RowKit Go.Deep Go.Maps MonM Go.Proofs.YtlhbgaiiehljpaaGreat
set_option linter.unusedVariables false
set_option linter.unusedSimpArgs false
set_option maxHeartbeats 8000000
set_option maxRecDepth 100000
attribute [local go_sem ↓] Go.wp_at_zero Go.wp_at_succ
/-- the walk, to the second example. -/
theorem fz1 (X : World) (g : Nat) (h : X.heap[g]? = some (.cells #[.int .u32 5, .int .u64 10, .int .u32 6, .int .u64 30] 52 (0, 0))) : Ss.Fz X (some ⟨g, 0, none⟩) [⟨5, 10⟩, ⟨6, 30⟩] := by
 intro i hi
 have hl := row_lt h
 match i, hi with
 | 0, _ => exact ⟨g, 0, rfl, hl, row_cell h 0, row_cell h 1⟩
 | 1, _ => exact ⟨g, 0, rfl, hl, row_cell h 2, row_cell h 3⟩
theorem j1 {H : Nat} (w : World) (h : Ho w H 1000 none 0 [] none 0 (fun _ => none)) :
  Calls Tryz.prog 15 #[pb H, .agg #[.int .u32 1, .int .u64 500]] w fun e w' => ∃ b g d, e = .returned (.int .i64 0) ∧ Ho w' H 1000 (some ⟨g, 0, none⟩) d [(b, ⟨1, 500, 0, false, false⟩)] none 0 (fun _ => none) ∧ Kp (fun j => j = H) w w' ∧ w.heap.size ≤ b ∧ w.heap.size ≤ g := by
 refine (join_any 1 500 w h (by decide) (fun y hy => by cases hy) (by decide) (by decide) (by decide) (by decide) (by decide)).mono ?_
 rintro e w' ⟨rfl, b, g, d, h1, h2, h3, h4⟩
 refine ⟨b, g, d, rfl, h1, h2.mono (fun j _ hj => ?_), h3, h4.resolve_left (fun e => ?_)⟩
 ·rcases hj with rfl | ⟨a, e, _⟩ | hj | hj
  ·rfl
  ·cases e
  ·cases hj
  ·cases hj
 ·have e : (none : Option Addr) = some _ := e
  cases e
theorem j2 {H g d b : Nat} (w : World) (h : Ho w H 1000 (some ⟨g, 0, none⟩) d [(b, ⟨1, 500, 0, false, false⟩)] none 0 (fun _ => none)) :
  Calls Tryz.prog 15 #[pb H, .agg #[.int .u32 2, .int .u64 500]] w fun e w' => ∃ b2 g2 d2, e = .returned (.int .i64 0) ∧ Ho w' H 1000 (some ⟨g2, 0, none⟩) d2 [(b, ⟨1, 500, 0, false, false⟩), (b2, ⟨2, 500, 0, false, false⟩)] none 0 (fun _ => none) ∧ Kp (fun j => j = H ∨ j = g ∨ j = b) w w' ∧ w.heap.size ≤ b2 ∧ (g2 = g ∨ w.heap.size ≤ g2) := by
 refine (join_any 2 500 w h (by decide) (fun y hy => ?_) (by decide) (by decide) ?_ ?_ (by simp)).mono ?_
 ·simp at hy
  subst hy
  exact (by decide : (1 : Int) < 2)
 ·show (0 : Int) ≤ (0 + 500) % 18446744073709551616
  decide
 ·show ((0 : Int) + 500) % 18446744073709551616 + 500 ≤ 9223372036854775808
  decide
 rintro e w' ⟨rfl, b2, g2, d2, h1, h2, h3, h4⟩
 refine ⟨b2, g2, d2, rfl, h1, h2.mono (fun j _ hj => ?_), h3, ?_⟩
 ·rcases hj with rfl | ⟨a, e, rfl⟩ | hj | hj
  ·exact .inl rfl
  ·cases e; exact .inr (.inl rfl)
  ·simp [bks] at hj; exact .inr (.inr hj)
  ·cases hj
 ·rcases h4 with e | e
  ·have e : (some ⟨g, 0, none⟩ : Option Addr) = some ⟨g2, 0, none⟩ := e
   cases e
   exact .inl rfl
  ·exact .inr e
theorem tk {H g d b1 b2 : Nat} (w : World) (h : Ho w H 1000 (some ⟨g, 0, none⟩) d [(b1, ⟨1, 500, 0, false, false⟩), (b2, ⟨2, 500, 0, false, false⟩)] none 0 (fun _ => none)) :
  Calls Tryz.prog 16 #[pb H, .agg #[.int .u32 7, .int .u32 1, .int .u32 2, .int .i64 1, .int .i64 500, .int .u64 10]] w fun e w' => ∃ b, e = .returned (.int .i64 0) ∧ w.heap.size ≤ b ∧ Ho w' H 1000 (some ⟨g, 0, none⟩) d (lA b1 b2) (some b) 2 (F2 pA pB) ∧ Kp (fun j => j = H) w w' := by
 refine (take_first ⟨7, 1, 2, 1, 500, 10⟩ w h (List.mem_cons_self ..) (List.mem_cons_of_mem _ (List.mem_cons_self ..)) rfl rfl rfl rfl (by decide) ⟨u32l (by decide) (by decide), u32l (by decide) (by decide), u32l (by decide) (by decide), ⟨by decide, by decide⟩, ⟨by decide, by decide⟩, ⟨by decide, by decide⟩⟩ (by decide)).mono ?_
 rintro e w' ⟨rfl, b, h1, h2, h3⟩
 refine ⟨b, rfl, h1, ?_, h3⟩
 rw [← F2_new]
 exact h2
theorem lives_ok (w : World) : Calls Tryz.prog 5 #[] w fun e w' => e = .returned (.bool true) ∧ Below w.heap.size w w' := by
 obtain ⟨W1, hW1⟩ : ∃ W, w.alloc (.cells #[.int .u32 5, .int .u64 10, .int .u32 6, .int .u64 30] 52) = W := ⟨_, rfl⟩
 obtain ⟨g1, hg1⟩ : ∃ g, w.heap.size = g := ⟨_, rfl⟩
 have B1 := hid (show Below w.heap.size w W1 from by rw [← hW1]; exact ball _ _)
 have R1 := hid (show W1.heap[g1]? = some (.cells #[.int .u32 5, .int .u64 10, .int .u32 6, .int .u64 30] 52 (0, 0)) from by rw [← hW1, ← hg1]; exact World.alloc_heap_new _ _)
 have CB := hid (Ss.bear_any 100 30 50 [⟨5, 10⟩, ⟨6, 30⟩] 2 (some ⟨g1, 0, none⟩) 2 W1 ⟨by decide, by decide⟩ ⟨by decide, by decide⟩ ⟨by decide, by decide⟩ (fun x hx => by
  simp at hx
  rcases hx with rfl | rfl
  ·exact ⟨by decide, by decide⟩
  ·exact ⟨by decide, by decide⟩) rfl (by decide) (fz1 W1 g1 R1.out))
 go_enter Tryz.func5, Tryz.ntmps5
 go_upto_region 1 with fail
 go_upto_region 2 with (clear hW1; go_at_call 13; refine CB.out.mono ?_; rintro e w2 ⟨er, o, h, lf, p, l, rfl, h1, h2, h3⟩; obtain ⟨e1, e2, e3, e4, e5⟩ := h1.uniq cvr1; subst e1; subst e2; subst e3; subst e4; subst e5; have F2 := hid h2; have B2 := hid h3; clear h1 h2 h3)
 obtain ⟨q, hq, -, hu⟩ : ∃ g, p = some ⟨g, 0, none⟩ ∧ W1.heap.size ≤ g ∧ Ss.Uw w2 g 2 [5, 15] := by
  rcases F2.out with ⟨-, h⟩ | ⟨g, e, h1, h2⟩
  ·cases h
  ·exact ⟨g, e, h1, h2⟩
 subst hq
 obtain ⟨W3, hW3⟩ : ∃ W, w2.alloc (.cells #[.int .u64 30, .int .u64 50, .slice (some ⟨q, 0, none⟩) 2 2, .int .u64 0] 48) = W := ⟨_, rfl⟩
 have B3 := hid (show Below w2.heap.size w2 W3 from by rw [← hW3]; exact ball _ _)
 have R3 := hid (show W3.heap[w2.heap.size]? = some (.cells #[.int .u64 30, .int .u64 50, .slice (some ⟨q, 0, none⟩) 2 2, .int .u64 0] 48 (0, 0)) from by rw [← hW3]; exact World.alloc_heap_new _ _)
 have U3 := hu.on B3.out
 have u0 : W3.cell? ⟨q, 0, none⟩ = some (.int .u64 5) := U3.cell (i := 0) (by decide)
 have u1 : W3.cell? ⟨q, 1, none⟩ = some (.int .u64 15) := U3.cell (i := 1) (by decide)
 rw [hW3]
 obtain ⟨g3, hg3⟩ : ∃ g, w2.heap.size = g := ⟨_, rfl⟩
 rw [hg3] at R3 ⊢
 clear hu U3 hW3 hg3 F2
 have c0 := row_cell R3.out 0
 have c1 := row_cell R3.out 1
 have c2 := row_cell R3.out 2
 have c3 := row_cell R3.out 3
 simp only [List.getElem?_toArray, List.getElem?_cons_succ, List.getElem?_cons_zero] at c0 c1 c2 c3
 go_upto_region 4 with fail
 have CN := hid (new_any 1000 W3)
 clear u0 u1 c0 c1 c2 c3 R3
 go_upto_region 5 with (go_at_call 14; with_reducible refine CN.out.mono ?_; rintro e w4 ⟨rfl, h1, h2⟩; have HO4 := hid h1; have B4 := hid h2; clear h1 h2)
 have J1 := hid (j1 w4 HO4.out)
 go_upto_region 7 with (first
  | (go_at_call 15; with_reducible refine J1.out.mono ?_; rintro e w5 ⟨b1, gA, dA, rfl, h1, h2, h3, h4⟩; have HO5 := hid h1; have K5 := hid h2; have L5 := hid h3; have M5 := hid h4; clear h1 h2 h3 h4; have J2 := hid (j2 w5 HO5.out))
  | (go_at_call 15; with_reducible refine J2.out.mono ?_; rintro e w6 ⟨b2, gB, dB, rfl, h1, h2, h3, h4⟩; have HO6 := hid h1; have K6 := hid h2; have L6 := hid h3; have M6 := hid h4; clear h1 h2 h3 h4; have JT := hid (tk w6 HO6.out))
  | (go_at_call 16; with_reducible refine JT.out.mono ?_; rintro e w7 ⟨b, rfl, h1, h2, h3⟩; have HO7 := hid h2; have L7 := hid h1; have K7 := hid h3; clear h1 h2 h3))
 obtain ⟨W8, hW8⟩ : ∃ W, w7.alloc (.cells #[.int .u32 7, .int .i64 400, .int .u32 1, .int .u32 10] 61) = W := ⟨_, rfl⟩
 have B8 := hid (show Below w7.heap.size w7 W8 from by rw [← hW8]; exact ball _ _)
 obtain ⟨R, hR⟩ : ∃ g, w7.heap.size = g := ⟨_, rfl⟩
 have R8 := hid (show W8.heap[R]? = some (.cells #[.int .u32 7, .int .i64 400, .int .u32 1, .int .u32 10] 61 (0, 0)) from by rw [← hW8, ← hR]; exact World.alloc_heap_new _ _)
 have NR := hid (HO7.out.on B8.out |>.ne R8.out (by decide) (by decide) (by decide))
 have CA := hid (closeA W8 (HO7.out.on B8.out) R R8.out)
 go_upto_region 8 with fail
 clear hW8
 go_upto_region 9 with (go_at_call 17; with_reducible refine CA.out.mono ?_; rintro e w9 ⟨qc, dc, rfl, h1, h2, h3⟩; have OC9 := hid h1; have HO9 := hid h2; have K9 := hid h3; clear h1 h2 h3)
 have RR9 := hid (K9.out.row R8.out NR.out)
 obtain ⟨gc, hgc, ty9⟩ : ∃ g, qc = some ⟨g, 0, none⟩ ∧ ∃ cur, w9.heap[g]? = some (.cells cur 68 (0, 0)) := by
  obtain ⟨_, ⟨e1, _⟩ | ⟨g', c', cur, e', r1, r2, _⟩⟩ := OC9.out
  ·cases (Value.slice.inj e1).2.1
  ·exact ⟨g', (Value.slice.inj e').1, cur, r2⟩
 subst hgc
 have m0 : w9.cell? ⟨gc, 0, none⟩ = some (.int .u32 1) := own_cells' OC9.out (j := 0) rfl
 have m3 : w9.cell? ⟨gc, 3, none⟩ = some (.int .u64 (hiW (-1000))) := own_cells' OC9.out (j := 3) rfl
 have m4 : w9.cell? ⟨gc, 4, none⟩ = some (.int .u64 (loW (-1000))) := own_cells' OC9.out (j := 4) rfl
 have CT := hid (text10 w9)
 unfold mv at CT
 obtain ⟨hh, ehh⟩ : ∃ x, hiW (-1000) = x := ⟨_, rfl⟩
 obtain ⟨ll, ell⟩ : ∃ x, loW (-1000) = x := ⟨_, rfl⟩
 rw [ehh, ell] at CT
 rw [ehh] at m3
 rw [ell] at m4
 clear ehh ell
 have CB' := hid (fun (U : World) (hU : Below w9.heap.size w9 U) => closeB U (HO9.out.on hU) R (row_on RR9.out hU))
 go_upto_region 11 with (go_at_call 18; with_reducible refine CT.out.mono ?_; rintro e wa ⟨rfl, h1⟩; have Ba := hid h1; clear h1)
 clear m0 m3 m4
 have CBa := hid (CB'.out wa Ba.out)
 go_upto_region 12 with (go_at_call 17; with_reducible refine CBa.out.mono ?_; rintro e wb ⟨qd, dd, gf, cf, q9, rfl, ⟨base, h1⟩, h2, h3⟩; have OFb := hid h1; have HOb := hid h2; have Kb := hid h3; clear h1 h2 h3)
 have n2 : wb.cell? ⟨gf, 2, none⟩ = some (.int .u64 500) := own_cells' OFb.out (j := 2) rfl
 have CO := hid (own_ask wb HOb.out)
 have CP := hid (pos_ask wb HOb.out 0 7 (u32l (by decide) (by decide)) (u32l (by decide) (by decide)) pA1 rfl)
 go_wp2_with (first
  | (go_at_call 19; with_reducible refine CO.out.mono ?_; rintro e wc ⟨rfl, hc⟩; subst hc)
  | (go_at_call 20; with_reducible refine CP.out.mono ?_; rintro e wc ⟨rfl, hc⟩; subst hc))
 go_ret
 refine ⟨rfl, ?_⟩
 have D3 : Below w.heap.size w W3 := btr (btr B1.out B2.out) B3.out
 have D4 := btr D3 B4.out
 have s3 := D3.size
 have s34 := B4.out.size
 have s45 := K5.out.size
 have s56 := K6.out.size
 have l5 := L5.out
 have m5 := M5.out
 have l6 := L6.out
 have m6 := M6.out
 have l7 := L7.out
 have D5 := D4.trans (K5.out.below D4.size (fun g hg e => by omega))
 have D6 := D5.trans (K6.out.below D5.size (fun g hg e => by omega))
 have D7 := D6.trans (K7.out.below D6.size (fun g hg e => by omega))
 have D8 := btr D7 B8.out
 have hob : ∀ j, Ob W3.heap.size (some ⟨gB, 0, none⟩) [b1, b2] (some b) j → w.heap.size ≤ j := fun j hj => by
  rcases hj with rfl | ⟨a, e, rfl⟩ | hj | hj
  ·exact s3
  ·cases e; show w.heap.size ≤ gB; omega
  ·simp at hj; omega
  ·cases hj; omega
 have D9 := D8.trans (K9.out.below D8.size (fun g hg e => by have := hob g e; omega))
 have Da := btr D9 Ba.out
 exact Da.trans (Kb.out.below Da.size (fun g hg e => by have := hob g e; omega))
end Go.Proofs.YtlhbgaiiehljpaaGreat.Ac
namespace Go.Proofs.YtlhbgaiiehljpaaGreat.Ac
open Go.RowKit Go.Deep Go.Maps MonM Go.Proofs.YtlhbgaiiehljpaaGreat
set_option linter.unusedVariables false
set_option linter.unusedSimpArgs false
set_option maxRecDepth 100000
abbrev Key := Int × Int
def gN (f : Ks2) (k : Key) : Nv := (f k).getD n0
def bq (d : Dl) (k : Key) : Int := if k = (d.buy, d.ins) then d.q else 0
def sq (d : Dl) (k : Key) : Int := if k = (d.sel, d.ins) then d.q else 0
def vq (d : Dl) (k : Key) : Int := (if k = (d.buy, d.ins) then d.pr * d.q else 0) + (if k = (d.sel, d.ins) then -(d.pr * d.q) else 0)
def tq (d : Dl) (k : Key) : Prop := k = (d.buy, d.ins) ∨ k = (d.sel, d.ins)
def sumB : List Dl → Key → Int
 | [], _ => 0
 | d :: r, k => bq d k + sumB r k
def sumS : List Dl → Key → Int
 | [], _ => 0
 | d :: r, k => sq d k + sumS r k
def sumP : List Dl → Key → Int
 | [], _ => 0
 | d :: r, k => vq d k + sumP r k
def tqs : List Dl → Key → Prop
 | [], _ => False
 | d :: r, k => tq d k ∨ tqs r k
/-- a deal's value is small. -/
theorem derr_bd {d : Dl} (h : derr d = 0) : 0 ≤ d.pr * d.q ∧ d.pr * d.q ≤ 1125899906842624 := by
 unfold derr at h
 split at h
 ·omega
 ·obtain ⟨⟨p0, p1⟩, q0, q1, _⟩ := terr_ok h
  refine ⟨Int.mul_nonneg p0 (by omega), ?_⟩
  have h1 : d.pr * d.q ≤ 262144 * d.q := Int.mul_le_mul_of_nonneg_right (by omega) (by omega)
  have h2 : 262144 * d.q ≤ 262144 * 4294967296 := Int.mul_le_mul_of_nonneg_left (by omega) (by omega)
  omega
theorem madd_in {a b : Int} (h : -2251799813685248000000000 ≤ a + b ∧ a + b ≤ 2251799813685248000000000) : maddV a b = a + b := by
 unfold maddV
 rw [if_pos (by omega)]
theorem upd_gN (f : Ks2) (k k' : Key) (v : Nv) : gN (upd f k v) k' = if k' = k then v else gN f k' := by
 unfold gN
 by_cases h : k' = k
 ·subst h; rw [upd_same, if_pos rfl]; rfl
 ·rw [upd_other _ _ h, if_neg h]
theorem upd_some (f : Ks2) (k k' : Key) (v : Nv) : (upd f k v k').isSome = true ↔ k' = k ∨ (f k').isSome = true := by
 by_cases h : k' = k
 ·subst h; rw [upd_same]; simp
 ·rw [upd_other _ _ h]; simp [h]
theorem dst_at (f : Ks2) (d : Dl) (k : Key) (h : derr d = 0) (ha : -1125899906842624000000000 ≤ (gN f k).a ∧ (gN f k).a ≤ 1125899906842624000000000) (hb : Word (gN f k).b) (hs : Word (gN f k).s) :
  gN (dst f d) k = ⟨((gN f k).b + bq d k) % 18446744073709551616, ((gN f k).s + sq d k) % 18446744073709551616, (gN f k).a + vq d k⟩ ∧ ((dst f d k).isSome = true ↔ tq d k ∨ (f k).isSome = true) := by
 obtain ⟨v0, v1⟩ := derr_bd h
 obtain ⟨v, hv⟩ : ∃ v, d.pr * d.q = v := ⟨_, rfl⟩
 have eb : (gN f k).b % 18446744073709551616 = (gN f k).b := by unfold Word at hb; omega
 have es : (gN f k).s % 18446744073709551616 = (gN f k).s := by unfold Word at hs; omega
 refine ⟨?_, ?_⟩
 ·unfold dst selD buyD bq sq vq
  rw [hv] at v0 v1 ⊢
  rw [upd_gN]
  have e0 : ∀ x, ((f x).getD n0) = gN f x := fun _ => rfl
  by_cases c2 : k = (d.sel, d.ins)
  ·rw [if_pos c2, if_pos c2, if_pos c2]
   subst c2
   have e1 := upd_gN f (d.buy, d.ins) (d.sel, d.ins) ⟨(((f (d.buy, d.ins)).getD n0).b + d.q) % 18446744073709551616, ((f (d.buy, d.ins)).getD n0).s, maddV ((f (d.buy, d.ins)).getD n0).a v⟩
   unfold gN at e1
   rw [e1]
   by_cases c1 : ((d.sel, d.ins) : Key) = (d.buy, d.ins)
   ·rw [if_pos c1, if_pos c1, if_pos c1, ← c1]
    simp only [e0]
    rw [madd_in (a := (gN f (d.sel, d.ins)).a) (b := v) (by omega), madd_in (by omega)]
    congr 1
    omega
   ·rw [if_neg c1, if_neg c1, if_neg c1]
    simp only [e0]
    rw [madd_in (by omega), Int.add_zero, eb]
    congr 1
    omega
  ·rw [if_neg c2, if_neg c2, if_neg c2, upd_gN]
   by_cases c1 : k = (d.buy, d.ins)
   ·rw [if_pos c1, if_pos c1, if_pos c1, ← c1]
    simp only [e0]
    rw [madd_in (by omega), Int.add_zero, es, Int.add_zero]
   ·rw [if_neg c1, if_neg c1, if_neg c1, Int.add_zero, Int.add_zero, eb, es]
    simp
 ·unfold dst selD buyD tq
  rw [upd_some, upd_some]
  constructor
  ·rintro (h | h | h)
   ·exact .inl (.inr h)
   ·exact .inl (.inl h)
   ·exact .inr h
  ·rintro ((h | h) | h)
   ·exact .inr (.inl h)
   ·exact .inl h
   ·exact .inr (.inr h)
theorem vq_bd {d : Dl} (h : derr d = 0) (k : Key) : -1125899906842624 ≤ vq d k ∧ vq d k ≤ 1125899906842624 := by
 obtain ⟨v0, v1⟩ := derr_bd h
 unfold vq
 split <;> split <;> omega
theorem nst_at : ∀ (l : List Dl) (f : Ks2) (k : Key), nerr l = 0 → (gN f k).a + 1125899906842624 * (l.length : Int) ≤ 1125899906842624000000000 → -1125899906842624000000000 ≤ (gN f k).a - 1125899906842624 * (l.length : Int) → Word (gN f k).b → Word (gN f k).s →
  gN (nst f l) k = ⟨((gN f k).b + sumB l k) % 18446744073709551616, ((gN f k).s + sumS l k) % 18446744073709551616, (gN f k).a + sumP l k⟩ ∧ ((nst f l k).isSome = true ↔ tqs l k ∨ (f k).isSome = true)
 | [], f, k, _, _, _, hb, hs => by
  unfold Word at hb hs
  refine ⟨?_, by simp [nst, tqs]⟩
  show gN f k = _
  simp only [sumB, sumS, sumP, Int.add_zero]
  rw [show (gN f k).b % 18446744073709551616 = (gN f k).b by omega, show (gN f k).s % 18446744073709551616 = (gN f k).s by omega]
 | d :: r, f, k, h, h1, h2, hb, hs => by
  have hd : derr d = 0 := by
   apply Classical.byContradiction
   intro c
   have : nerr (d :: r) = derr d := if_neg c
   omega
  have hr : nerr r = 0 := by
   have : nerr (d :: r) = nerr r := if_pos hd
   omega
  rw [List.length_cons] at h1 h2
  have hl : ((r.length + 1 : Nat) : Int) = (r.length : Int) + 1 := by omega
  rw [hl] at h1 h2
  obtain ⟨e1, e2⟩ := dst_at f d k hd (by omega) hb hs
  have hv := vq_bd hd k
  have ih := nst_at r (dst f d) k hr (by rw [e1]; show (gN f k).a + vq d k + _ ≤ _; omega) (by rw [e1]; show _ ≤ (gN f k).a + vq d k - _; omega) (by rw [e1]; show Word (((gN f k).b + bq d k) % 18446744073709551616); unfold Word; omega) (by rw [e1]; show Word (((gN f k).s + sq d k) % 18446744073709551616); unfold Word; omega)
  obtain ⟨i1, i2⟩ := ih
  have en : nst f (d :: r) = nst (dst f d) r := rfl
  rw [en, i1, e1]
  refine ⟨?_, ?_⟩
  ·simp only [sumB, sumS, sumP]
   rw [show (((gN f k).b + bq d k) % 18446744073709551616 + sumB r k) % 18446744073709551616 = ((gN f k).b + (bq d k + sumB r k)) % 18446744073709551616 by omega, show (((gN f k).s + sq d k) % 18446744073709551616 + sumS r k) % 18446744073709551616 = ((gN f k).s + (sq d k + sumS r k)) % 18446744073709551616 by omega, Int.add_assoc]
  ·rw [i2, e2]
   simp only [tqs]
   constructor
   ·rintro (h | h | h)
    ·exact .inl (.inr h)
    ·exact .inl (.inl h)
    ·exact .inr h
   ·rintro ((h | h) | h)
    ·exact .inr (.inl h)
    ·exact .inl h
    ·exact .inr (.inr h)
abbrev e0 : Ks2 := fun _ => none
theorem nst_e (l : List Dl) (k : Key) (h : nerr l = 0) (hl : l.length ≤ 1000000000) : gN (nst e0 l) k = ⟨sumB l k % 18446744073709551616, sumS l k % 18446744073709551616, sumP l k⟩ ∧ ((nst e0 l k).isSome = true ↔ tqs l k) := by
 have e : gN e0 k = ⟨0, 0, 0⟩ := rfl
 obtain ⟨h1, h2⟩ := nst_at l e0 k h (by rw [e]; show (0 : Int) + _ ≤ _; omega) (by rw [e]; show _ ≤ (0 : Int) - _; omega) (by rw [e]; exact ⟨by decide, by decide⟩) (by rw [e]; exact ⟨by decide, by decide⟩)
 rw [e] at h1
 simp only [Int.zero_add] at h1
 exact ⟨h1, by rw [h2]; simp⟩
/-- the amounts are small. -/
theorem sumP_bd : ∀ (l : List Dl) (k : Key), nerr l = 0 → -(1125899906842624 * (l.length : Int)) ≤ sumP l k ∧ sumP l k ≤ 1125899906842624 * (l.length : Int)
 | [], k, _ => by simp [sumP]
 | d :: r, k, h => by
  have hd : derr d = 0 := by
   apply Classical.byContradiction
   intro c
   have : nerr (d :: r) = derr d := if_neg c
   omega
  have hr : nerr r = 0 := by
   have : nerr (d :: r) = nerr r := if_pos hd
   omega
  have := sumP_bd r k hr
  have := vq_bd hd k
  simp only [sumP, List.length_cons]
  rw [show ((r.length + 1 : Nat) : Int) = (r.length : Int) + 1 by omega]
  omega
end Go.Proofs.YtlhbgaiiehljpaaGreat.Ac
namespace Go.Proofs.YtlhbgaiiehljpaaGreat.Ac
open Go.RowKit Go.Deep Go.Maps MonM Go.Proofs.YtlhbgaiiehljpaaGreat
set_option linter.unusedVariables false
set_option linter.unusedSimpArgs false
set_option maxHeartbeats 4000000
set_option maxRecDepth 100000
attribute [local go_sem ↓] Go.wp_at_zero Go.wp_at_succ
theorem lsum_any (a b : Int) (w : World) (ha : Amt a) (hb : Amt b) : Calls Tryz.prog 9 #[mv a, mv b] w fun e w' => e = .returned (mv (maddV a b)) ∧ Below w.heap.size w w' := by
 have C := hid (fun U => madd_any a b U ha hb)
 obtain ⟨n, hn⟩ : ∃ n, maddV a b = n := ⟨_, rfl⟩
 obtain ⟨er, her⟩ : ∃ n, maddE a b = n := ⟨_, rfl⟩
 rw [hn, her] at C
 rw [hn]
 clear ha hb hn her
 obtain ⟨g2, hg2⟩ : ∃ g, w.heap.size = g := ⟨_, rfl⟩
 obtain ⟨Wa, hWa⟩ : ∃ W, w.alloc (.cells #[.int .u64 (hiW a), .int .u64 (loW a)] 33) = W := ⟨_, rfl⟩
 obtain ⟨g3, hg3⟩ : ∃ g, Wa.heap.size = g := ⟨_, rfl⟩
 obtain ⟨Wb, hWb⟩ : ∃ W, Wa.alloc (.cells #[.int .u64 (hiW b), .int .u64 (loW b)] 33) = W := ⟨_, rfl⟩
 obtain ⟨g4, hg4⟩ : ∃ g, Wb.heap.size = g := ⟨_, rfl⟩
 obtain ⟨Wc, hWc⟩ : ∃ W, Wb.alloc (.cells #[.int .u64 0, .int .u64 0] 33) = W := ⟨_, rfl⟩
 have ba : Below w.heap.size w Wa := by rw [← hWa]; exact ball _ _
 have bb : Below Wa.heap.size Wa Wb := by rw [← hWb]; exact ball _ _
 have bc : Below Wb.heap.size Wb Wc := by rw [← hWc]; exact ball _ _
 have R2b := hid (show Wb.heap[g2]? = some (.cells #[.int .u64 (hiW a), .int .u64 (loW a)] 33 (0, 0)) from row_on (by rw [← hWa, ← hg2]; exact World.alloc_heap_new _ _) bb)
 have R3b := hid (show Wb.heap[g3]? = some (.cells #[.int .u64 (hiW b), .int .u64 (loW b)] 33 (0, 0)) from by rw [← hWb, ← hg3]; exact World.alloc_heap_new _ _)
 have HBC := hid bc
 have HG4 := hid (show Wb.heap.size ≤ g4 from by rw [hg4]; exact Nat.le_refl _)
 have HBB := hid (btr ba bb)
 have R2 := hid (show Wc.heap[g2]? = some (.cells #[.int .u64 (hiW a), .int .u64 (loW a)] 33 (0, 0)) from row_on (row_on (by rw [← hWa, ← hg2]; exact World.alloc_heap_new _ _) bb) bc)
 have R3 := hid (show Wc.heap[g3]? = some (.cells #[.int .u64 (hiW b), .int .u64 (loW b)] 33 (0, 0)) from row_on (by rw [← hWb, ← hg3]; exact World.alloc_heap_new _ _) bc)
 have R4 := hid (show Wc.heap[g4]? = some (.cells #[.int .u64 0, .int .u64 0] 33 (0, 0)) from by rw [← hWc, ← hg4]; exact World.alloc_heap_new _ _)
 have BC := hid (btr (btr ba bb) bc)
 have HG := hid (show w.heap.size ≤ g4 from by rw [← hg4]; exact (btr ba bb).size)
 have HGc := hid (show g4 < Wc.heap.size from row_lt R4.out)
 have k0 := row_cell R2.out 0
 have k1 := row_cell R2.out 1
 have k2 := row_cell R3.out 0
 have k3 := row_cell R3.out 1
 simp only [List.getElem?_toArray, List.getElem?_cons_succ, List.getElem?_cons_zero] at k0 k1 k2 k3
 clear ba bb bc
 unfold mv at C ⊢
 go_enter Tryz.func9, Tryz.ntmps9
 go_upto_region 1 with fail
 go_upto_region 2 with (first | (go_at_call 26; with_reducible refine (C.out _).mono ?_; rintro e X ⟨rfl, hX⟩; have HX := hid hX; clear hX; have HZ := hid (World.alloc_heap_new X (.cells #[.int .u64 0, .int .u64 0] 33))) | (refine wpList_store_row (by rfl) 33 (.tmp 5) (.tmp 11) (by rfl) X.heap.size #[.int .u64 (hiW n), .int .u64 (loW n)] (by rfl) (by rfl) 33 _ HZ.out infoM2 (by rfl) (by simp [Value.oneCell']) ?_))
 obtain ⟨Y, hY⟩ : ∃ Y, (X.alloc (.cells #[.int .u64 0, .int .u64 0] 33)).setRow X.heap.size #[.int .u64 (hiW n), .int .u64 (loW n)] = Y := ⟨_, rfl⟩
 have GY := hid (show Y.heap[X.heap.size]? = some (.cells #[.int .u64 (hiW n), .int .u64 (loW n)] 33 (0, 0)) from by rw [← hY]; exact setRow_heap _ _ _ _ 33 (0, 0) HZ.out)
 have BY := hid (show Below X.heap.size X Y from by rw [← hY]; exact setRow_below (ball _ _) (Nat.le_refl _))
 rw [hY]
 obtain ⟨y, hy⟩ : ∃ y, X.heap.size = y := ⟨_, rfl⟩
 rw [hy] at GY ⊢
 have RY := hid (row_on (row_on R4.out HX.out) BY.out)
 clear hY hy HZ k0 k1 k2 k3
 have k0 := row_cell GY.out 0
 have k1 := row_cell GY.out 1
 simp only [List.getElem?_toArray, List.getElem?_cons_succ, List.getElem?_cons_zero] at k0 k1
 go_wp2_with (refine wpList_store_row (by rfl) 33 (.tmp 4) (.tmp 13) (by rfl) g4 #[.int .u64 (hiW n), .int .u64 (loW n)] (by rfl) (by rfl) 33 _ RY.out infoM2 (by rfl) (by simp [Value.oneCell']) ?_)
 exact bodyPost_ret (res_c Tryz.results9 _ _ g4 33 #[.int .u64 (hiW n), .int .u64 (loW n)] (0, 0) _ (by rfl) (setRow_heap _ _ _ _ 33 (0, 0) RY.out) Tryz.underlying33 rfl infoM2) rfl ⟨rfl, setRow_below (btr (btr BC.out HX.out) BY.out) HG.out⟩
theorem nets_cell {base : Nat} {w : World} {g n c : Nat} {r : List Nt} (h : w.ownsRow base 38 6 (.slice (some ⟨g, 0, none⟩) n c) n (ncs r)) {i : Nat} (hi : i < r.length) {j : Nat} (h6 : j < 6) {u : Value} (hj : (nce r[i])[j]? = some u) : w.cell? ⟨g, i * 6 + j, none⟩ = some u :=
 own_cells' h (by rw [show ncs r = r.flatMap nce from rfl, flat_at 6 nce (fun _ => rfl) r i j hi h6, hj])
theorem reln_gN {f : Ks2} {r : List Nt} (h : RelN f r) {x : Nt} (hx : x ∈ r) : gN f (x.m, x.i) = ⟨x.b, x.s, x.a⟩ := by
 obtain ⟨u1, u2, _⟩ := h.ok x hx
 have := (h.iff x.m x.i ⟨x.b, x.s, x.a⟩ u1 u2).2 hx
 unfold gN
 rw [this]
 rfl
end Go.Proofs.YtlhbgaiiehljpaaGreat.Ac
