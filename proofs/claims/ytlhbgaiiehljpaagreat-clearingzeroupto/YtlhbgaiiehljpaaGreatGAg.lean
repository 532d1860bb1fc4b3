/-
  StG
-/
import Derived.Test.YtlhbgaiiehljpaaGreatStF
import Derived.Test.YtlhbgaiiehljpaaGreatGAa
import Derived.Shelf.Small.Bits
import Derived.Shelf.Small.Wraps
import Derived.Shelf.Strconv.Itoa0
import Derived.Shelf.Bits.Mul64
import Derived.Test.YtlhbgaiiehljpaaGreatProg
namespace Go.Proofs.YtlhbgaiiehljpaaGreat.Ss
open Go.RowKit Go.Deep
set_option linter.unusedVariables false
set_option linter.unusedSimpArgs false
set_option maxHeartbeats 8000000
set_option maxRecDepth 100000
attribute [local go_sem ↓] Go.wp_at_zero Go.wp_at_succ
/-- up to a in order by blocks of c, from there on by blocks of b; each place is in its own block. -/
structure Mx (r : Int → Int) (f : Nat → Int) (b c a n : Nat) : Prop where
 l1 : ∀ x, x < n → x < a → ∃ y : Nat, f x = y ∧ y / c = x / c
 l2 : ∀ x, x < n → a ≤ x → ∃ y : Nat, f x = y ∧ y / b = x / b
 s1 : ∀ x y, x < y → y < n → y < a → x / c = y / c → lt r (f x) (f y)
 s2 : ∀ x y, x < y → y < n → a ≤ x → x / b = y / b → lt r (f x) (f y)
theorem div_at {c t x a : Nat} (ha : a = c * t) (h1 : a ≤ x) (h2 : x < a + c) : x / c = t := by
 subst ha
 exact Nat.div_eq_of_lt_le (by rw [Nat.mul_comm]; exact h1) (by rw [Nat.mul_comm, Nat.mul_add, Nat.mul_one]; exact h2)
theorem Mx.step {r : Int → Int} {f f' : Nat → Int} {b k c t n a e : Nat} (h : Mx r f b c a n) (ha : a = c * t) (hc : c = b * k) (he : e ≤ n) (hle : a ≤ e) (he2 : e ≤ a + c) (hs : Seg f f' a e) (hr : Srt r f' a e) : Mx r f' b c e n := by
 refine ⟨fun x x1 x2 => ?_, fun x x1 x2 => ?_, fun x y xy y1 y2 hd => ?_, fun x y xy y1 x1 hd => ?_⟩
 ·by_cases c1 : x < a
  ·rw [hs.out x (.inl c1)]; exact h.l1 x x1 c1
  ·obtain ⟨z, z1, z2, z3⟩ := hs.inn x (by omega) x2
   obtain ⟨y, y1, y2⟩ := h.l2 z (by omega) z1
   refine ⟨y, by rw [z3]; exact y1, ?_⟩
   have e1 : y / c = z / c := by rw [hc, ← Nat.div_div_eq_div_mul, ← Nat.div_div_eq_div_mul, y2]
   rw [e1, div_at ha z1 (by omega), div_at ha (by omega) (by omega)]
 ·rw [hs.out x (.inr x2)]; exact h.l2 x x1 (by omega)
 ·by_cases c1 : y < a
  ·rw [hs.out x (.inl (by omega)), hs.out y (.inl c1)]; exact h.s1 x y xy y1 c1 hd
  ·by_cases c2 : a ≤ x
   ·exact hr x y c2 xy y2
   ·have e1 : y / c = t := div_at ha (by omega) (by omega)
    have e2 : x / c < t := Nat.div_lt_of_lt_mul (by omega)
    omega
 ·rw [hs.out x (.inr x1), hs.out y (.inr (by omega))]; exact h.s2 x y xy y1 (by omega) hd
theorem Mx.next {r : Int → Int} {f : Nat → Int} {b c d a n : Nat} (h : Mx r f b c a n) (ha : n ≤ a) : Mx r f c d 0 n :=
 ⟨fun x x1 x2 => by omega, fun x x1 x2 => h.l1 x x1 (by omega), fun x y xy y1 y2 hd => by omega, fun x y xy y1 x1 hd => h.s1 x y xy y1 (by omega) hd⟩
theorem Mx.start {r : Int → Int} {f : Nat → Int} {c n : Nat} (h : ∀ x, x < n → f x = x) : Mx r f 1 c 0 n :=
 ⟨fun x x1 x2 => by omega, fun x x1 x2 => ⟨x, h x x1, rfl⟩, fun x y xy y1 y2 hd => by omega, fun x y xy y1 x1 hd => by simp at hd; omega⟩
/-- a block of b is in order. -/
theorem Mx.run {r : Int → Int} {f : Nat → Int} {b c a n u e t : Nat} (h : Mx r f b c a n) (hu : u = b * t) (hau : a ≤ u) (he : e ≤ u + b) (hen : e ≤ n) : Srt r f u e := fun x y x1 xy y1 =>
 h.s2 x y xy (by omega) (by omega) (by rw [div_at hu x1 (by omega), div_at hu (by omega) (by omega)])
/-- of two blocks the left one has the lesser places. -/
theorem Mx.stb {r : Int → Int} {f : Nat → Int} {b c a n u v e t : Nat} (h : Mx r f b c a n) (hb : 0 < b) (hu : u = b * t) (hv : v = u + b) (hau : a ≤ u) (hen : e ≤ n) (hev : e ≤ v + b) : Stb r f u v e := fun x y x1 x2 y1 y2 _ => by
 obtain ⟨p, p1, p2⟩ := h.l2 x (by omega) (by omega)
 obtain ⟨q, q1, q2⟩ := h.l2 y (by omega) (by omega)
 rw [div_at hu x1 (by omega)] at p2
 rw [div_at (t := t + 1) (a := v) (by rw [Nat.mul_add, Nat.mul_one, ← hu]; exact hv) y1 (by omega)] at q2
 rw [p1, q1]
 have h1 : p < b * (t + 1) := by
  have := Nat.lt_mul_div_succ p hb
  rw [p2] at this
  exact this
 have h2 : b * (t + 1) ≤ q := by
  have := Nat.mul_div_le q b
  rw [q2] at this
  exact this
 omega
theorem Mx.all {r : Int → Int} {f : Nat → Int} {b c n : Nat} (h : Mx r f b c 0 n) (hb : n ≤ b) : Srt r f 0 n := h.run (u := 0) (t := 0) rfl (Nat.le_refl _) (by omega) (Nat.le_refl _)
theorem stable_any (g cap n N B : Nat) (r : Int → Int) (l0 : List Int) (w0 : World) (h : Uz w0 g n l0) (hn : n ≤ 1152921504606846) (h0 : ∀ x, x < n → gd l0 x = x) (hN : n ≤ N) (hcq : Cq w0 g B N r) :
  Calls Tryz.prog 122 #[.slice (some ⟨g, 0, none⟩) n cap, .int .i64 n, .func (.func 110) #[] #[.pointer (some ⟨B, 0, none⟩)]] w0 fun e w' => e = .returned (.tuple #[]) ∧ Sp w0 w' g n (fun l => l.Perm l0 ∧ Srt r (gd l) 0 n) := by
 have hlen := h.len
 have HBD := hid (show ∀ x ∈ l0, 0 ≤ x ∧ x < (N : Int) from fun x hx => by
  obtain ⟨i, hi, e⟩ := List.getElem_of_mem hx
  have e2 : gd l0 i = l0[i] := by unfold gd; rw [List.getD_eq_getElem?_getD, List.getElem?_eq_getElem hi]; rfl
  rw [h0 i (by omega), e] at e2
  omega)
 have HS0 := hid (h.sp (F := fun l => l.Perm l0 ∧ Mx r (gd l) 1 20 0 n) ⟨List.Perm.refl _, Mx.start h0⟩)
 have CQ := hid hcq
 clear h h0 hcq hlen
 go_enter Tryz.func122, Tryz.ntmps122
 go_upto_region 2 with fail
 go_loopw [7, 8] (fun av bv wr => ∃ t a : Nat, a = 20 * t ∧ av = .int .i64 a ∧ bv = .int .i64 ((a + 20 : Nat) : Int) ∧ a ≤ n ∧ Hid (Sp w0 wr g n (fun l => l.Perm l0 ∧ Mx r (gd l) 1 20 a n))) (fun av _ _ => n - (intOf av).toNat)
 case atStart => exact ⟨0, 0, rfl, rfl, rfl, Nat.zero_le _, HS0⟩
 case round =>
  obtain ⟨t, a, ha, rfl, rfl, han, HS⟩ := hrel
  clear HS0
  obtain ⟨b, hb⟩ : ∃ b, a + 20 = b := ⟨_, rfl⟩
  rw [hb]
  obtain ⟨l, p1, u1, k1⟩ := HS.out
  have K1 := hid k1
  have P1 := hid p1
  have HA := hid ha
  by_cases hle : b ≤ n
  ·have il : decide ((b : Int) ≤ (n : Int)) = true := decide_eq_true (by omega)
   have CI := hid (ins_st g cap n N B r l a b wr u1 (by omega) hle (by omega) (fun x hx => HBD.out x (p1.1.mem_iff.1 hx)) (fun x y x1 xy y1 _ => by
    obtain ⟨p, q1, q2⟩ := p1.2.l2 x (by omega) x1
    obtain ⟨q, s1, s2⟩ := p1.2.l2 y (by omega) (by omega)
    rw [q1, s1]
    rw [Nat.div_one, Nat.div_one] at q2 s2
    omega) (CQ.out.on k1))
   have wb : IntKind.i64.wrap ((b : Int) + 20) = ((b + 20 : Nat) : Int) := by rw [IntKind.wrap_i64]; omega
   have HBB := hid (And.intro hb hle)
   clear u1 k1 p1 HS ha hb
   go_wp2_with (go_at_call 126; with_reducible refine CI.out.mono ?_; rintro e w4 ⟨rfl, z⟩; have HZ := hid z; clear z)
   go_roundw
   case rel =>
    obtain ⟨hb, hle⟩ := HBB.out
    refine ⟨t + 1, b, by have := HA.out; omega, rfl, by go_num, hle, hid (Sp.trans K1.out (HZ.out.mono (fun l' _ hl => ⟨hl.1.trans P1.out.1, P1.out.2.step (k := 20) (t := t) HA.out rfl hle (by omega) (by omega) hl.2.1 hl.2.2⟩)))⟩
   case measure => have := HBB.out; simp [intOf]; omega
  ·have il : decide ((b : Int) ≤ (n : Int)) = false := decide_eq_false (by omega)
   have CI := hid (ins_st g cap n N B r l a n wr u1 han (Nat.le_refl _) (by omega) (fun x hx => HBD.out x (p1.1.mem_iff.1 hx)) (fun x y x1 xy y1 _ => by
    obtain ⟨p, q1, q2⟩ := p1.2.l2 x (by omega) x1
    obtain ⟨q, s1, s2⟩ := p1.2.l2 y (by omega) (by omega)
    rw [q1, s1]
    rw [Nat.div_one, Nat.div_one] at q2 s2
    omega) (CQ.out.on k1))
   have HBB := hid (And.intro hb hle)
   clear u1 k1 p1 HS ha hb
   go_upto_region 7 with (go_at_call 126; with_reducible refine CI.out.mono ?_; rintro e w4 ⟨rfl, z⟩; have HZ := hid z; clear z)
   have HS1 := hid (show Sp w0 w4 g n (fun l => l.Perm l0 ∧ Mx r (gd l) 20 (20 * 2) 0 n) from Sp.trans K1.out (HZ.out.mono (fun l' _ hl => by
    obtain ⟨hb, hle⟩ := HBB.out
    exact ⟨hl.1.trans P1.out.1, (P1.out.2.step (k := 20) (t := t) (e := n) HA.out rfl (Nat.le_refl _) han (by omega) hl.2.1 hl.2.2).next (Nat.le_refl _)⟩)))
   clear HZ CI P1 K1 HA il HBB hle
   obtain ⟨V0, hV0⟩ : ∃ V, V = w4 := ⟨_, rfl⟩
   subst hV0
   go_loopw [6] (fun bv wr => ∃ bs : Nat, bv = .int .i64 bs ∧ 20 ≤ bs ∧ bs ≤ 2 * n + 20 ∧ Hid (Sp w0 wr g n (fun l => l.Perm l0 ∧ Mx r (gd l) bs (bs * 2) 0 n))) (fun bv _ => n - (intOf bv).toNat)
   case atStart => exact ⟨20, rfl, by omega, by omega, HS1⟩
   case round =>
    obtain ⟨bs, rfl, b0, b1, HS⟩ := hrel
    clear HS1
    by_cases hbn : bs < n
    ·have il : decide ((bs : Int) < (n : Int)) = true := decide_eq_true (by omega)
     have w2 : IntKind.i64.wrap (2 * (bs : Int)) = ((bs * 2 : Nat) : Int) := by rw [IntKind.wrap_i64]; omega
     have w2' : 2 * (bs : Int) = ((bs * 2 : Nat) : Int) := by omega
     have HBS := hid hbn
     obtain ⟨c, hc⟩ : ∃ c, bs * 2 = c := ⟨_, rfl⟩
     rw [hc] at w2 w2' HS
     have HC := hid hc
     clear hc
     obtain ⟨V1, hV1⟩ : ∃ V, V = wr := ⟨_, rfl⟩
     subst hV1
     go_upto_region 9 with fail
     go_loopw [7, 8] (fun av bv wr => ∃ t a : Nat, a = c * t ∧ av = .int .i64 a ∧ bv = .int .i64 ((a + c : Nat) : Int) ∧ a ≤ n ∧ Hid (Sp w0 wr g n (fun l => l.Perm l0 ∧ Mx r (gd l) bs c a n))) (fun av _ _ => n - (intOf av).toNat)
     case atStart => exact ⟨0, 0, rfl, rfl, by (first | rfl | (congr 1; omega)), Nat.zero_le _, HS⟩
     case round =>
      obtain ⟨t, a, ha, rfl, rfl, han, HS2⟩ := hrel
      clear HS
      obtain ⟨b, hb⟩ : ∃ b, a + c = b := ⟨_, rfl⟩
      rw [hb]
      obtain ⟨m, hm⟩ : ∃ m, a + bs = m := ⟨_, rfl⟩
      obtain ⟨l, p1, u1, k1⟩ := HS2.out
      have K1 := hid k1
      have P1 := hid p1
      have HA := hid ha
      have hab : a = bs * (2 * t) := by rw [ha, ← HC.out, Nat.mul_assoc]
      have hmb : m = bs * (2 * t + 1) := by rw [Nat.mul_add, Nat.mul_one, ← hab]; exact hm.symm
      have wm : (a : Int) + (bs : Int) = (m : Int) := by omega
      have hcc := HC.out
      by_cases hle : b ≤ n
      ·have il2 : decide ((b : Int) ≤ (n : Int)) = true := decide_eq_true (by omega)
       have CI := hid (sym_any g cap n N B r (by omega) (b - a) l a m b wr (Nat.le_refl _) u1 (by omega) (by omega) hle (fun x hx => HBD.out x (p1.1.mem_iff.1 hx)) (p1.2.run hab (Nat.le_refl _) (by omega) (by omega)) (p1.2.run hmb (by omega) (by omega) hle) (p1.2.stb (by omega) hab hm.symm (Nat.le_refl _) hle (by omega)) (CQ.out.on k1))
       have wb9 : IntKind.i64.wrap ((b : Int) + (c : Int)) = ((b + c : Nat) : Int) := by rw [IntKind.wrap_i64]; omega
       have HBB := hid (And.intro hb (And.intro hle hcc))
       clear u1 k1 p1 HS2 ha hb hab hmb hcc hm
       go_wp2_with (go_at_call 127; with_reducible refine CI.out.mono ?_; rintro e w5 ⟨rfl, z⟩; have HZ := hid z; clear z)
       go_roundw
       case rel =>
        obtain ⟨hb, hle, hcc⟩ := HBB.out
        refine ⟨t + 1, b, by rw [Nat.mul_add, Nat.mul_one, ← HA.out]; exact hb.symm, rfl, by go_num, hle, hid (Sp.trans K1.out (HZ.out.mono (fun l' _ hl => ⟨hl.1.trans P1.out.1, P1.out.2.step (k := 2) (t := t) HA.out hcc.symm hle (by omega) (by omega) hl.2.1 hl.2.2⟩)))⟩
       case measure => have := HBB.out; simp [intOf]; omega
      ·have il2 : decide ((b : Int) ≤ (n : Int)) = false := decide_eq_false (by omega)
       have wbs : IntKind.i64.wrap ((bs : Int) * 2) = ((c : Nat) : Int) := by rw [IntKind.wrap_i64]; omega
       have wbs2 : (bs : Int) * 2 = (c : Int) := by omega
       by_cases hmn : m < n
       ·have il3 : decide ((m : Int) < (n : Int)) = true := decide_eq_true (by omega)
        have CI := hid (sym_any g cap n N B r (by omega) (n - a) l a m n wr (Nat.le_refl _) u1 (by omega) hmn (Nat.le_refl _) (fun x hx => HBD.out x (p1.1.mem_iff.1 hx)) (p1.2.run hab (Nat.le_refl _) (by omega) (by omega)) (p1.2.run hmb (by omega) (by omega) (Nat.le_refl _)) (p1.2.stb (by omega) hab hm.symm (Nat.le_refl _) (Nat.le_refl _) (by omega)) (CQ.out.on k1))
        have HBB := hid (And.intro hb (And.intro hle hcc))
        clear u1 k1 p1 HS2 ha hb hab hmb hcc hm
        go_wp2_with (go_at_call 127; with_reducible refine CI.out.mono ?_; rintro e w5 ⟨rfl, z⟩; have HZ := hid z; clear z)
        go_roundw
        case rel =>
         obtain ⟨hb, hle, hcc⟩ := HBB.out
         refine ⟨c, rfl, by omega, by have := HBS.out; omega, hid (Sp.trans K1.out (HZ.out.mono (fun l' _ hl => ⟨hl.1.trans P1.out.1, (P1.out.2.step (k := 2) (t := t) (e := n) HA.out hcc.symm (Nat.le_refl _) han (by omega) hl.2.1 hl.2.2).next (Nat.le_refl _)⟩)))⟩
        case measure => have := HBB.out; have := HBS.out; simp [intOf]; omega
       ·have il3 : decide ((m : Int) < (n : Int)) = false := decide_eq_false (by omega)
        have HQ := hid (show Sp w0 wr g n (fun l => l.Perm l0 ∧ Mx r (gd l) c (c * 2) 0 n) from ⟨l, ⟨p1.1, (p1.2.step (k := 2) (t := t) (e := n) ha hcc.symm (Nat.le_refl _) han (by omega) (Seg.refl _ _ _) (p1.2.run hab (Nat.le_refl _) (by omega) (Nat.le_refl _))).next (Nat.le_refl _)⟩, u1, k1⟩)
        have HBB := hid (And.intro hb (And.intro hle hcc))
        clear u1 k1 p1 HS2 ha hb hab hmb hcc hm
        go_wp2
        go_roundw
        case rel =>
         obtain ⟨hb, hle, hcc⟩ := HBB.out
         exact ⟨c, rfl, by omega, by have := HBS.out; omega, HQ⟩
        case measure => have := HBB.out; have := HBS.out; simp [intOf]; omega
    ·have il : decide ((bs : Int) < (n : Int)) = false := decide_eq_false (by omega)
     have HE := hid (HS.out.mono (G := fun l => l.Perm l0 ∧ Srt r (gd l) 0 n) (fun l _ hl => ⟨hl.1, hl.2.all (by omega)⟩))
     go_wp2
     go_end0
     exact ⟨rfl, HE.out⟩
theorem sorted_any (g cap n N B : Nat) (r : Int → Int) (l0 : List Int) (w0 : World) (h : Uz w0 g n l0) (hn : n ≤ 1152921504606846) (h0 : ∀ x, x < n → gd l0 x = x) (hN : n ≤ N) (hcq : Cq w0 g B N r) :
  Calls Tryz.prog 109 #[.slice (some ⟨g, 0, none⟩) n cap, .func (.func 110) #[] #[.pointer (some ⟨B, 0, none⟩)]] w0 fun e w' => e = .returned (.tuple #[]) ∧ Sp w0 w' g n (fun l => l.Perm l0 ∧ Srt r (gd l) 0 n) := by
 have C := hid (stable_any g cap n N B r l0 w0 h hn h0 hN hcq)
 clear h h0 hcq
 go_enter Tryz.func109, Tryz.ntmps109
 go_wp2_with (go_at_call 122; with_reducible refine C.out.mono ?_; rintro e w4 ⟨rfl, z⟩; have HZ := hid z; clear z)
 go_end0
 exact ⟨rfl, HZ.out⟩
end Go.Proofs.YtlhbgaiiehljpaaGreat.Ss
namespace Go.Proofs.YtlhbgaiiehljpaaGreat
open Go.RowKit
theorem add_any (a b : Int) (w : World) (ha : Word a) (hb : Word b) :
  Calls Tryz.prog 60 #[.int .u64 a, .int .u64 b] w fun e w' => e = .returned (.tuple #[.int .u64 (addV a b), .int .i64 (addE a b)]) ∧ w' = w := by
 obtain ⟨a1, a2⟩ := ha; obtain ⟨b1, b2⟩ := hb
 unfold addV addE
 by_cases h : a + b < 18446744073709551616
 ·have e1 : (a + b) % 18446744073709551616 = a + b := by omega
  have e2 : (a + b) / 18446744073709551616 = 0 := by omega
  have k := add64_0 a b a1 b1
  rw [e1, e2] at k
  clear e1 e2
  rw [if_pos h, if_pos h]
  go_enter Tryz.func60, Tryz.ntmps60
  go_wp2_with (simp only [k])
  go_ret2
  exact ⟨rfl, rfl⟩
 ·have e2 : (a + b) / 18446744073709551616 = 1 := by omega
  have k := add64_0 a b a1 b1
  rw [e2] at k
  clear e2
  rw [if_neg h, if_neg h]
  go_enter Tryz.func60, Tryz.ntmps60
  go_wp2_with (simp only [k])
  go_ret2
  exact ⟨rfl, rfl⟩
def sumL (l : List Int) : Int := l.foldl (· + ·) 0
def sumV (l : List Int) : Int := if sumL l < 18446744073709551616 then sumL l else 0
def sumE (l : List Int) : Int := if sumL l < 18446744073709551616 then 0 else 10
theorem sumL_snoc (l : List Int) (x : Int) : sumL (l ++ [x]) = sumL l + x := by simp [sumL, List.foldl_append]
theorem foldl_add (l : List Int) (a : Int) : l.foldl (· + ·) a = a + l.foldl (· + ·) 0 := by
 induction l generalizing a with
 | nil => simp
 | cons x r ih => simp only [List.foldl_cons, Int.zero_add]; rw [ih (a + x), ih x]; omega
theorem sumL_cons (x : Int) (l : List Int) : sumL (x :: l) = x + sumL l := by
 unfold sumL; simp only [List.foldl_cons, Int.zero_add]; exact foldl_add l x
theorem sumL_append (a b : List Int) : sumL (a ++ b) = sumL a + sumL b := by
 induction a with
 | nil => simp [sumL]
 | cons x r ih => rw [List.cons_append, sumL_cons, sumL_cons, ih]; omega
theorem sumL_nonneg (l : List Int) (h : ∀ x, x ∈ l → 0 ≤ x) : 0 ≤ sumL l := by
 induction l with
 | nil => simp [sumL]
 | cons x r ih =>
  rw [sumL_cons]
  have h1 := h x (by simp)
  have h2 := ih (fun y hy => h y (by simp [hy]))
  omega
theorem sumL_take_le (l : List Int) (h : ∀ x, x ∈ l → 0 ≤ x) (k : Nat) : 0 ≤ sumL (l.take k) ∧ sumL (l.take k) ≤ sumL l := by
 have e : sumL l = sumL (l.take k) + sumL (l.drop k) := by rw [← sumL_append, List.take_append_drop]
 have h1 := sumL_nonneg (l.take k) (fun x hx => h x (List.mem_of_mem_take hx))
 have h2 := sumL_nonneg (l.drop k) (fun x hx => h x (List.mem_of_mem_drop hx))
 omega
theorem take_snoc (l : List Int) (k : Nat) (h : k < l.length) : l.take (k + 1) = l.take k ++ [l[k]?.getD 0] := by
 rw [List.take_succ_eq_append_getElem h]; simp [h]
set_option maxHeartbeats 1000000 in
theorem sum_any (zs : List Int) (b off cap : Nat) (w : World) (hbig : zs.length ≤ 9223372036854775807) (hz : ∀ x, x ∈ zs → Word x)
  (hc : ∀ j, j < zs.length → w.cell? ⟨b, off + j, none⟩ = some (.int .u64 (zs.getD j 0))) :
  Calls Tryz.prog 29 #[.slice (some ⟨b, off, none⟩) zs.length cap] w fun e w' => e = .returned (.tuple #[.int .u64 (sumV zs), .int .i64 (sumE zs)]) ∧ w' = w := by
 go_enter Tryz.func29, Tryz.ntmps29
 go_wp2
 go_loop [4, 10] (fun s i => ∃ k : Nat, k ≤ zs.length ∧ i = .int .i64 k ∧ sumL (zs.take k) < 18446744073709551616 ∧ s = .int .u64 (sumL (zs.take k))) (fun _ i => zs.length - (intOf i).toNat)
 case atStart => exact ⟨0, Nat.zero_le _, rfl, by simp [sumL], by simp [sumL]⟩
 case round =>
  obtain ⟨k, hk, rfl, hs, rfl⟩ := hrel
  have h0 := (sumL_take_le zs (fun x hx => (hz x hx).1) k).1
  by_cases hlt : k < zs.length
  ·have hcell := hc k hlt
   have hx : Word (zs[k]?.getD 0) := by simp only [List.getElem?_eq_getElem hlt, Option.getD_some]; exact hz _ (List.getElem_mem hlt)
   have hsn : sumL (zs.take (k + 1)) = sumL (zs.take k) + zs[k]?.getD 0 := by rw [take_snoc zs k hlt]; exact sumL_snoc _ _
   have hle := (sumL_take_le zs (fun x hx => (hz x hx).1) (k + 1)).2
   rw [show zs.getD k 0 = zs[k]?.getD 0 from by simp [List.getD]] at hcell
   generalize zs[k]?.getD 0 = x at hcell hx hsn
   have HS : Hid (sumL (zs.take (k + 1)) = sumL (zs.take k) + x) := hsn
   by_cases hf : sumL (zs.take k) + x < 18446744073709551616
   ·have hE : addE (sumL (zs.take k)) x = 0 := if_pos hf
    have hV : addV (sumL (zs.take k)) x = sumL (zs.take k) + x := if_pos hf
    have hA := add_any (sumL (zs.take k)) x
    rw [hE, hV] at hA
    have HA : Hid (_) := hA
    clear hE hV hle hsn hA hc hz
    go_wp2_with (go_at_call 60; refine (HA.out _ ⟨h0, hs⟩ hx).mono ?_; rintro e w' ⟨rfl, rfl⟩)
    go_round
    case rel => exact ⟨k + 1, by omega, by go_num, by rw [HS.out]; exact hf, by rw [HS.out]⟩
    case measure => simp [intOf]; omega
   ·have hE : addE (sumL (zs.take k)) x = 10 := if_neg hf
    have hV : addV (sumL (zs.take k)) x = 0 := if_neg hf
    have hA := add_any (sumL (zs.take k)) x
    rw [hE, hV] at hA
    have HA : Hid (_) := hA
    have HF : Hid (sumV zs = 0 ∧ sumE zs = 10) := by
     have hn : ¬ sumL zs < 18446744073709551616 := by omega
     exact ⟨if_neg hn, if_neg hn⟩
    clear hE hV hle hsn hA hc hz
    go_wp2_with (go_at_call 60; refine (HA.out _ ⟨h0, hs⟩ hx).mono ?_; rintro e w' ⟨rfl, rfl⟩)
    go_ret2
    exact ⟨by rw [HF.out.1, HF.out.2]; rfl, rfl⟩
  ·have HF : Hid (sumV zs = sumL (zs.take k) ∧ sumE zs = 0) := by
    have e : zs.take k = zs := List.take_of_length_le (by omega)
    rw [e] at hs ⊢
    exact ⟨if_pos hs, if_pos hs⟩
   go_wp2
   go_ret2
   exact ⟨by rw [HF.out.1, HF.out.2]; rfl, rfl⟩
end Go.Proofs.YtlhbgaiiehljpaaGreat
namespace Go.Proofs
open Go.Shelf
def Tryz.lays134_ren : Go.Shelf.Ren := ⟨fun | 134 => 89 | 129 => 99 | n => n, fun | 53 => 31 | 3 => 3 | 4 => 4 | 46 => 93 | 5 => 5 | 9 => 9 | n => n, fun | n => n⟩
theorem Tryz.lays134 : Go.Proofs.Lays.n134 Tryz.prog Tryz.lays134_ren := {
 mixed := by kernel_rfl
 f129 := Tryz.func99.trans (congrArg some (by kernel_rfl))
 f134 := Tryz.func89.trans (congrArg some (by kernel_rfl))
 t3 := Tryz.underlying3
 a3 := Tryz.isAgg3
 z3 := Tryz.sizeOf3
 v3 := Tryz.zeroValue3
 t4 := Tryz.underlying4
 a4 := Tryz.isAgg4
 z4 := Tryz.sizeOf4
 v4 := Tryz.zeroValue4
 t5 := Tryz.underlying5
 a5 := Tryz.isAgg5
 z5 := Tryz.sizeOf5
 v5 := Tryz.zeroValue5
 t9 := Tryz.underlying9
 a9 := Tryz.isAgg9
 z9 := Tryz.sizeOf9
 v9 := Tryz.zeroValue9
 t46 := Tryz.underlying93
 a46 := Tryz.isAgg93
 z46 := Tryz.sizeOf93
 v46 := Tryz.zeroValue93
 t53 := Tryz.underlying31
 a53 := Tryz.isAgg31
 z53 := Tryz.sizeOf31
 v53 := Tryz.zeroValue31 }
theorem Tryz.bits_LeadingZeros64 (x : Int) (w : World) (h0 : 0 ≤ x) (h1 : x ≤ 18446744073709551615) :
  Calls Tryz.prog 89 #[.int .u64 x] w fun e w' => e = .returned (.int .i64 (64 - (Lib.bitLen x.toNat : Int))) ∧ w' = w := Any.bits_LeadingZeros64 Tryz.lays134 x w h0 h1
open Go.RowKit Go.Lib in
def Tryz.lays264_ren : Go.Shelf.Ren := ⟨fun | 264 => 84 | n => n, fun | 53 => 31 | 46 => 93 | n => n, fun | n => n⟩
theorem Tryz.lays264 : Go.Proofs.Lays.n264 Tryz.prog Tryz.lays264_ren := {
 mixed := by kernel_rfl
 f264 := Tryz.func84.trans (congrArg some (by kernel_rfl))
 t46 := Tryz.underlying93
 a46 := Tryz.isAgg93
 z46 := Tryz.sizeOf93
 v46 := Tryz.zeroValue93
 t53 := Tryz.underlying31
 a53 := Tryz.isAgg31
 z53 := Tryz.sizeOf31
 v53 := Tryz.zeroValue31 }
open Go.RowKit Go.Lib in
theorem Tryz.bits_Mul64 (x y : Nat) (hx : x < 18446744073709551616) (hy : y < 18446744073709551616) (w : World) :
  Calls Tryz.prog 84 #[.int .u64 x, .int .u64 y] w fun e w' => e = .returned (.tuple #[.int .u64 ((x * y / 18446744073709551616 : Nat) : Int), .int .u64 ((x * y % 18446744073709551616 : Nat) : Int)]) ∧ w' = w := Any.bits_Mul64 Tryz.lays264 x y hx hy w
end Go.Proofs
namespace Go.Proofs.YtlhbgaiiehljpaaGreat
open Go.RowKit
def mulH (a b : Int) : Int := a * b / 18446744073709551616
def mulL (a b : Int) : Int := a * b % 18446744073709551616
theorem mul_word (a b : Int) (ha : Word a) (hb : Word b) : 0 ≤ a * b ∧ a * b ≤ 340282366920938463426481119284349108225 := by
 obtain ⟨a1, a2⟩ := ha; obtain ⟨b1, b2⟩ := hb
 refine ⟨Int.mul_nonneg a1 b1, ?_⟩
 have := Int.mul_le_mul (a := a) (b := b) (c := 18446744073709551615) (d := 18446744073709551615) (by omega) (by omega) b1 (by omega)
 exact this
theorem mulH_word (a b : Int) (ha : Word a) (hb : Word b) : Word (mulH a b) := by
 have := mul_word a b ha hb; unfold mulH Word; omega
theorem mulL_word (a b : Int) : Word (mulL a b) := by unfold mulL Word; omega
theorem mul64_any (a b : Int) (w : World) (ha : Word a) (hb : Word b) :
  Calls Tryz.prog 84 #[.int .u64 a, .int .u64 b] w fun e w' => e = .returned (.tuple #[.int .u64 (mulH a b), .int .u64 (mulL a b)]) ∧ w' = w := by
 obtain ⟨a1, a2⟩ := ha; obtain ⟨b1, b2⟩ := hb
 obtain ⟨x, rfl⟩ := Int.eq_ofNat_of_zero_le a1
 obtain ⟨y, rfl⟩ := Int.eq_ofNat_of_zero_le b1
 refine (Tryz.bits_Mul64 x y (by omega) (by omega) w).mono ?_
 rintro e w' ⟨rfl, rfl⟩
 refine ⟨?_, rfl⟩
 unfold mulH mulL
 simp only [Int.natCast_ediv, Int.natCast_emod, Int.natCast_mul]
 rfl
end Go.Proofs.YtlhbgaiiehljpaaGreat
