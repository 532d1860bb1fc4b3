/-
  SrI
-/
import Derived.Test.YtlhbgaiiehljpaaGreatGBf
import Derived.Test.YtlhbgaiiehljpaaGreatGAx
import Derived.Sort.LotA
import Derived.Sort.LotB
import Derived.Sort.LotC
import Derived.Sort.LotD2
import Derived.Sort.LotD3
namespace Go.Proofs.YtlhbgaiiehljpaaGreat.Sr
open Go.RowKit Go.Deep
set_option linter.unusedVariables false
set_option linter.unusedSimpArgs false
set_option maxHeartbeats 8000000
set_option maxRecDepth 100000
theorem next_any (s : Nat) (x : Int) (w : World) (h : w.heap[s]? = some (.cells #[.int .u64 x] 187 (0, 0))) :
  Calls Tryz.prog 116 #[.pointer (some ⟨s, 0, none⟩)] w fun e w' => ∃ y : Int, e = .returned (.int .u64 y) ∧ Hid (w'.heap[s]? = some (.cells #[.int .u64 y] 187 (0, 0))) ∧ Hid (Kp (fun j => j = s) w w') := by
 have c0 : w.cell? ⟨s, 0, none⟩ = some (.int .u64 x) := row_cell h 0
 have f0 : w.frozen? ⟨s, 0, none⟩ = false := row_frz h 0
 have H := hid h
 clear h
 go_enter Tryz.func116, Tryz.ntmps116
 go_upto_region 1 with fail
 go_region
 obtain ⟨x1, hx1⟩ : ∃ y, bits BinOp.xor IntKind.u64 x (IntKind.u64.wrap (x * 8192)) = y := ⟨_, rfl⟩
 rw [hx1]
 obtain ⟨W1, hW1⟩ : ∃ U, (w.setCell ⟨s, 0, none⟩ (.int .u64 x1)).drew = U := ⟨_, rfl⟩
 have H1 := hid (show W1.heap[s]? = some (.cells #[.int .u64 x1] 187 (0, 0)) from by rw [← hW1]; exact heap_setCell_same w s 0 _ _ _ H.out)
 have K1 := hid (show Kp (fun j => j = s) w W1 from by rw [← hW1]; exact (Kp.set w s 0 _).trans (Kp.drew _ _) (fun _ _ e => e))
 rw [hW1]
 clear hW1 hx1 c0 f0
 have c0 : W1.cell? ⟨s, 0, none⟩ = some (.int .u64 x1) := row_cell H1.out 0
 have f0 : W1.frozen? ⟨s, 0, none⟩ = false := row_frz H1.out 0
 go_upto_region 2 with fail
 go_region
 obtain ⟨x2, hx2⟩ : ∃ y, bits BinOp.xor IntKind.u64 x1 (x1 / 128) = y := ⟨_, rfl⟩
 rw [hx2]
 obtain ⟨W2, hW2⟩ : ∃ U, (W1.setCell ⟨s, 0, none⟩ (.int .u64 x2)).drew = U := ⟨_, rfl⟩
 have H2 := hid (show W2.heap[s]? = some (.cells #[.int .u64 x2] 187 (0, 0)) from by rw [← hW2]; exact heap_setCell_same W1 s 0 _ _ _ H1.out)
 have K2 := hid (show Kp (fun j => j = s) W1 W2 from by rw [← hW2]; exact (Kp.set W1 s 0 _).trans (Kp.drew _ _) (fun _ _ e => e))
 rw [hW2]
 clear hW2 hx2 c0 f0
 have c0 : W2.cell? ⟨s, 0, none⟩ = some (.int .u64 x2) := row_cell H2.out 0
 have f0 : W2.frozen? ⟨s, 0, none⟩ = false := row_frz H2.out 0
 go_upto_region 3 with fail
 go_region
 obtain ⟨x3, hx3⟩ : ∃ y, bits BinOp.xor IntKind.u64 x2 (IntKind.u64.wrap (x2 * 131072)) = y := ⟨_, rfl⟩
 rw [hx3]
 obtain ⟨W3, hW3⟩ : ∃ U, (W2.setCell ⟨s, 0, none⟩ (.int .u64 x3)).drew = U := ⟨_, rfl⟩
 have H3 := hid (show W3.heap[s]? = some (.cells #[.int .u64 x3] 187 (0, 0)) from by rw [← hW3]; exact heap_setCell_same W2 s 0 _ _ _ H2.out)
 have K3 := hid (show Kp (fun j => j = s) W2 W3 from by rw [← hW3]; exact (Kp.set W2 s 0 _).trans (Kp.drew _ _) (fun _ _ e => e))
 rw [hW3]
 clear hW3 hx3 c0 f0
 have c0 : W3.cell? ⟨s, 0, none⟩ = some (.int .u64 x3) := row_cell H3.out 0
 have f0 : W3.frozen? ⟨s, 0, none⟩ = false := row_frz H3.out 0
 go_wp2
 go_ret
 exact ⟨x3, rfl, H3, hid ((K1.out.trans K2.out (fun _ _ e => e)).trans K3.out (fun _ _ e => e))⟩
theorem bl_bounds : ∀ (f x : Nat), x < 2 ^ f → x ≠ 0 → 1 ≤ Lib.bitLenAux f x ∧ 2 ^ (Lib.bitLenAux f x - 1) ≤ x ∧ x < 2 ^ Lib.bitLenAux f x := by
 intro f
 induction f with
 | zero => intro x h h0; simp at h; omega
 | succ f ih =>
  intro x h h0
  simp only [Lib.bitLenAux, h0, if_false]
  by_cases hz : x / 2 = 0
  ·have hx : x = 1 := by omega
   subst hx
   have : Lib.bitLenAux f (1 / 2) = 0 := by cases f <;> simp [Lib.bitLenAux]
   rw [this]; simp
  ·obtain ⟨a, b, c⟩ := ih (x / 2) (by rw [Nat.pow_succ] at h; omega) hz
   generalize Lib.bitLenAux f (x / 2) = m at *
   obtain ⟨m', rfl⟩ : ∃ m', m = m' + 1 := ⟨m - 1, by omega⟩
   have e : 1 + (m' + 1) - 1 = m' + 1 := by omega
   have e2 : 1 + (m' + 1) = m' + 1 + 1 := by omega
   rw [e, e2]
   simp only [Nat.add_sub_cancel] at b
   rw [Nat.pow_succ 2 (m' + 1)]
   rw [Nat.pow_succ] at c ⊢
   omega
theorem npow_any (n : Nat) (h1 : 1 ≤ n) (h2 : n ≤ 1152921504606846976) (w : World) :
  Calls Tryz.prog 115 #[.int .i64 n] w fun e w' => ∃ m : Nat, e = .returned (.int .u64 m) ∧ Hid (1 ≤ m ∧ m ≤ 2 * n) ∧ w = w' := by
 have hL := hid (Tryz.bits_Len (n : Int) w (by omega) (by omega))
 have wn : IntKind.u64.wrap (n : Int) = (n : Int) := by rw [IntKind.wrap_u64]; omega
 obtain ⟨k, hk⟩ : ∃ k, Lib.bitLen (n : Int).toNat = k := ⟨_, rfl⟩
 have hb : 1 ≤ k ∧ 2 ^ (k - 1) ≤ n ∧ n < 2 ^ k := by
  have e : (n : Int).toNat = n := by omega
  rw [e] at hk
  have := bl_bounds 64 n (by omega) (by omega)
  change 1 ≤ Lib.bitLen n ∧ 2 ^ (Lib.bitLen n - 1) ≤ n ∧ n < 2 ^ Lib.bitLen n at this
  rw [hk] at this
  exact this
 obtain ⟨m, hm⟩ : ∃ m, 2 ^ k = m := ⟨_, rfl⟩
 have hmm : 1 ≤ m ∧ m ≤ 2 * n := by
  obtain ⟨b1, b2, b3⟩ := hb
  obtain ⟨j, rfl⟩ : ∃ j, k = j + 1 := ⟨k - 1, by omega⟩
  rw [Nat.pow_succ] at hm
  simp only [Nat.add_sub_cancel] at b2
  have := Nat.two_pow_pos j
  omega
 have k60 : k ≤ 61 := by
  rcases Nat.lt_or_ge 61 k with h | h
  ·have := Nat.pow_le_pow_right (n := 2) (by omega) h
   omega
  ·exact h
 have HMM := hid hmm
 have HKM := hid hm
 rw [hk] at hL
 clear hk hb hm hmm
 go_enter Tryz.func115, Tryz.ntmps115
 go_wp2_with (go_at_call 77; with_reducible refine (hL.out).mono ?_; rintro e w9 ⟨rfl, h9⟩; subst w9)
 go_ret
 refine ⟨m, ?_, HMM, rfl⟩
 have e3 : ((2 : Int) ^ k) = (m : Int) := by rw [← HKM.out]; simp
 have e4 : IntKind.u64.wrap (m : Int) = (m : Int) := by rw [IntKind.wrap_u64]; have := HMM.out; omega
 rw [e3, e4]
 rfl
theorem and_le (y z : Int) (h0 : 0 ≤ z) (h1 : z < 18446744073709551616) : 0 ≤ bits BinOp.and IntKind.u64 y z ∧ bits BinOp.and IntKind.u64 y z ≤ z := by
 have e1 : (BitVec.ofInt 64 z).toNat = z.toNat := by rw [BitVec.toNat_ofInt]; omega
 have e2 : (BitVec.ofInt 64 y &&& BitVec.ofInt 64 z).toNat ≤ z.toNat := by rw [BitVec.toNat_and, e1]; exact Nat.and_le_right
 have e3 : bits BinOp.and IntKind.u64 y z = IntKind.u64.wrap ((BitVec.ofInt 64 y &&& BitVec.ofInt 64 z).toNat : Int) := rfl
 rw [e3, IntKind.wrap_u64]
 omega
end Go.Proofs.YtlhbgaiiehljpaaGreat.Sr
namespace Go.Proofs.YtlhbgaiiehljpaaGreat.Sr
open Go.RowKit Go.Deep
set_option linter.unusedVariables false
set_option linter.unusedSimpArgs false
set_option maxHeartbeats 8000000
set_option maxRecDepth 100000
attribute [local go_sem ↓] Go.wp_at_zero Go.wp_at_succ
/-- a call that only puts them in another order, from any order on. -/
theorem Sz.call {f : Nat} {args : Array Value} {w0 U : World} {g n : Nat} {l0 : List Int} (hS : Sz w0 U g n l0) {R : Ending → Prop} (h : ∀ l, Uz U g n l → Calls Tryz.prog f args U fun e w' => R e ∧ Sz U w' g n l) : Calls Tryz.prog f args U fun e w' => R e ∧ Hid (Sz w0 w' g n l0) := by
 obtain ⟨l, q1, q2, q3⟩ := hS
 exact (h l q2).mono (fun e w' hh => ⟨hh.1, hid (hh.2.trans q1 q3)⟩)
end Go.Proofs.YtlhbgaiiehljpaaGreat.Sr
namespace Go.Proofs.YtlhbgaiiehljpaaGreat.Sr
open Go.RowKit Go.Deep
set_option linter.unusedVariables false
set_option linter.unusedSimpArgs false
set_option maxHeartbeats 8000000
set_option maxRecDepth 100000
theorem own_same {base : Nat} {w w' : World} {e : TypeId} {size n : Nat} {v : Value} {xs : List Value} (h : w.ownsRow base e size v n xs) (hs : ∀ g, v.ownBlock = some g → w'.heap[g]? = w.heap[g]?) : w'.ownsRow base e size v n xs := by
 obtain ⟨h1, h2 | ⟨g, c, cur, h2, r1, r2, r⟩⟩ := h
 ·exact ⟨h1, .inl h2⟩
 ·exact ⟨h1, .inr ⟨g, c, cur, h2, r1, (hs g (by rw [h2]; rfl)).trans r2, r⟩⟩
theorem own_on {base : Nat} {w w' : World} {e : TypeId} {size n : Nat} {v : Value} {xs : List Value} (h : w.ownsRow base e size v n xs) (hb : Below w.heap.size w w') : w'.ownsRow base e size v n xs := by
 have h' := h
 obtain ⟨h1, h2 | ⟨g, c, cur, h2, r1, r2, r⟩⟩ := h
 ·exact ⟨h1, .inl h2⟩
 ·exact own_same h' (fun g' hg' => by rw [h2] at hg'; cases hg'; exact hb.block g (row_lt r2))
theorem ins0 (p : Option Addr) (c : Nat) (w : World) : Calls Tryz.prog 100 #[.slice p 0 c, .int .i64 0, .int .i64 0] w fun e w' => e = .returned (.tuple #[]) ∧ w' = w := by
 go_enter Tryz.func100, Tryz.ntmps100
 go_upto_region 1 with fail
 go_loopw [6] (fun iv wr => iv = .int .i64 1 ∧ w = wr) (fun iv _ => 1)
 case atStart => exact ⟨rfl, rfl⟩
 case round =>
  obtain ⟨rfl, rfl⟩ := hrel
  go_wp2
  go_end0
  exact ⟨rfl, rfl⟩
theorem pdq0 (p : Option Addr) (c : Nat) (lim : Int) (w : World) : Calls Tryz.prog 80 #[.slice p 0 c, .int .i64 0, .int .i64 0, .int .i64 lim] w fun e w' => e = .returned (.tuple #[]) ∧ w' = w := by
 have CI := hid (ins0 p c w)
 go_enter Tryz.func80, Tryz.ntmps80
 go_upto_region 2 with fail
 go_loopw [1, 2] (fun av bv wr => av = .int .i64 0 ∧ bv = .int .i64 0 ∧ w = wr) (fun _ _ _ => 1)
 case atStart => exact ⟨rfl, rfl, rfl⟩
 case round =>
  obtain ⟨rfl, rfl, rfl⟩ := hrel
  go_wp2_with (go_at_call 100; with_reducible refine (CI.out).mono ?_; rintro e v1 ⟨rfl, hv⟩; subst hv)
  try simp only [Exit.inBlock, Exit.then]
  refine bodyPost_ret (results_none rfl _ _ _) rfl ?_
  exact ⟨rfl, rfl⟩
theorem sort0 (p : Option Addr) (c : Nat) (w : World) : Calls Tryz.prog 58 #[.slice p 0 c] w fun e w' => e = .returned (.tuple #[]) ∧ w' = w := by
 have hL := hid (Tryz.bits_Len 0 w (by omega) (by omega))
 obtain ⟨k, hk⟩ : ∃ k, Lib.bitLen (0 : Int).toNat = k := ⟨_, rfl⟩
 rw [hk] at hL
 have CP := hid (pdq0 p c k w)
 clear hk
 go_enter Tryz.func58, Tryz.ntmps58
 go_wp2_with (first | (go_at_call 77; with_reducible refine (hL.out).mono ?_; rintro e w9 ⟨rfl, h9⟩; subst w9) | (go_at_call 80; with_reducible refine (CP.out).mono ?_; rintro e v1 ⟨rfl, hv⟩; subst hv))
 go_end0
 exact ⟨rfl, rfl⟩
def ivs (l : List Int) : List Value := l.map fun x => .int .u32 x
theorem own_uz {base : Nat} {w : World} {p : Option Addr} {k c : Nat} {l : List Int} (hk : l.length = k) (h0 : 0 < k) (h : w.ownsRow base 36 1 (.slice p k c) k (ivs l)) : ∃ g, p = some ⟨g, 0, none⟩ ∧ base ≤ g ∧ Uz w g k l := by
 obtain ⟨h1, ⟨e1, e2⟩ | ⟨g, c', cur, e1, r1, r2, r3, r4, r5, r6⟩⟩ := h
 ·omega
 ·refine ⟨g, (Value.slice.inj e1).1, r1, hk, cur, r2, by omega, fun i hi => ?_⟩
  have := congrArg (fun z => z[i]?) r6
  simp only [List.getElem?_take, Array.getElem?_toList] at this
  rw [if_pos (by omega)] at this
  rw [this]
  unfold ivs gd
  rw [List.getElem?_map, List.getD_eq_getElem?_getD, List.getElem?_eq_getElem (by omega)]
  rfl
theorem infoU : (Tryz.prog.info? 36).map (fun i => (i.zero, i.size, i.bytes)) = some (some (.int .u32 0), 1, 4) := by kernel_rfl
end Go.Proofs.YtlhbgaiiehljpaaGreat.Sr
namespace Go.Proofs.YtlhbgaiiehljpaaGreat.Sr
open Go.RowKit Go.Deep
set_option linter.unusedVariables false
set_option linter.unusedSimpArgs false
set_option maxHeartbeats 8000000
set_option maxRecDepth 100000
attribute [local go_sem ↓] Go.wp_at_zero Go.wp_at_succ
/-- numbers in a block, with a property of their list; only that block has changed. -/
def Sp (w0 w : World) (g n : Nat) (F : List Int → Prop) : Prop := ∃ l, F l ∧ Uz w g n l ∧ Kp (fun b => b = g) w0 w
theorem Uz.sp {w : World} {g n : Nat} {l : List Int} {F : List Int → Prop} (h : Uz w g n l) (hf : F l) : Sp w w g n F := ⟨l, hf, h, Kp.refl _ _⟩
theorem Sp.drew {w0 w : World} {g n : Nat} {F : List Int → Prop} (h : Sp w0 w g n F) : Sp w0 w.drew g n F := by
 obtain ⟨l, h1, h2, h3⟩ := h
 exact ⟨l, h1, h2.same rfl, h3.trans (Kp.drew _ _) (fun _ _ e => e)⟩
theorem Sp.drewN {w0 w : World} {g n : Nat} {F : List Int → Prop} (h : Sp w0 w g n F) (k : Nat) : Sp w0 (w.drewN k) g n F := by
 obtain ⟨l, h1, h2, h3⟩ := h
 exact ⟨l, h1, h2.same rfl, h3.trans (Kp.drewN _ _ k) (fun _ _ e => e)⟩
theorem Sp.on {w0 w w' : World} {g n : Nat} {F : List Int → Prop} (h : Sp w0 w g n F) (hb : Below w.heap.size w w') : Sp w0 w' g n F := by
 obtain ⟨l, h1, h2, h3⟩ := h
 obtain ⟨cur, e, _⟩ := h2.row
 exact ⟨l, h1, h2.same (hb.block g (row_lt e)), h3.trans (Kp.of _ hb) (fun _ _ e => e)⟩
theorem Sp.mono {w0 w : World} {g n : Nat} {F G : List Int → Prop} (h : Sp w0 w g n F) (hm : ∀ l, l.length = n → F l → G l) : Sp w0 w g n G := by
 obtain ⟨l, h1, h2, h3⟩ := h
 exact ⟨l, hm l h2.len h1, h2, h3⟩
theorem Sp.trans {w0 w w' : World} {g n : Nat} {F : List Int → Prop} (h3 : Kp (fun b => b = g) w0 w) (h : Sp w w' g n F) : Sp w0 w' g n F := by
 obtain ⟨l', a1, a2, a3⟩ := h
 exact ⟨l', a1, a2, h3.trans a3 (fun _ _ e => e)⟩
theorem Sp.swap {w0 w : World} {g n : Nat} {l : List Int} {F : List Int → Prop} {i j : Nat} (h1 : F (sw l i j)) (h2 : Uz w g n l) (h3 : Kp (fun b => b = g) w0 w) (hi : i < n) (hj : j < n) : Sp w0 ((w.setCell ⟨g, i, none⟩ (.int .u32 (gd l j))).setCell ⟨g, j, none⟩ (.int .u32 (gd l i))) g n F :=
 ⟨sw l i j, h1, (h2.set hi _).set hj _, (h3.trans (Kp.set w g i _) (fun _ _ e => e)).trans (Kp.set _ g j _) (fun _ _ e => e)⟩
theorem arr_get (l : List Int) (i : Nat) : l.toArray[i]! = gd l i := by
 unfold gd
 simp [List.getD_eq_getElem?_getD]
theorem sw_arr (l : List Int) (i j : Nat) : (sw l i j).toArray = Go.Sort.swp l.toArray i j := by
 unfold sw Go.Sort.swp
 rw [arr_get, arr_get]
 simp
/-- the order of numbers. -/
abbrev lt := Go.Sort.ltInt
theorem lt_def (x y : Int) : lt x y = decide (x < y) := rfl
theorem insInner_stop {a j : Nat} {d : Array Int} (h : ¬ a < j) : Go.Sort.insInner lt a j d = d := by
 cases j with
 | zero => rfl
 | succ k => unfold Go.Sort.insInner; rw [if_neg]; simp; omega
theorem insInner_go {a k : Nat} {l : List Int} (h : a < k + 1) (hl : decide (gd l (k + 1) < gd l k) = true) : Go.Sort.insInner lt a (k + 1) l.toArray = Go.Sort.insInner lt a k (sw l (k + 1) k).toArray := by
 rw [sw_arr]
 conv => lhs; unfold Go.Sort.insInner
 rw [arr_get, arr_get, if_pos]
 simp only [lt_def, hl, Bool.and_true, decide_eq_true_eq]; omega
theorem insInner_no {a k : Nat} {l : List Int} (hl : decide (gd l (k + 1) < gd l k) = false) : Go.Sort.insInner lt a (k + 1) l.toArray = l.toArray := by
 unfold Go.Sort.insInner
 rw [arr_get, arr_get, if_neg]
 simp only [lt_def, hl, Bool.and_false]; simp
theorem insOuter_go {a b i : Nat} {d : Array Int} (h : i < b) : Go.Sort.insOuter lt a b i d = Go.Sort.insOuter lt a b (i + 1) (Go.Sort.insInner lt a i d) := by
 conv => lhs; unfold Go.Sort.insOuter
 rw [if_pos h]
theorem insOuter_end {a b i : Nat} {d : Array Int} (h : ¬ i < b) : Go.Sort.insOuter lt a b i d = d := by
 unfold Go.Sort.insOuter
 rw [if_neg h]
end Go.Proofs.YtlhbgaiiehljpaaGreat.Sr
