/-
  ShB
-/
import Derived.Test.YtlhbgaiiehljpaaGreatGAi
import Derived.OwnWalk
import Derived.Laws.AppendOwnNone
namespace Go.Proofs.YtlhbgaiiehljpaaGreat.Ss
open Go.RowKit Go.Deep
set_option linter.unusedVariables false
set_option linter.unusedSimpArgs false
set_option maxHeartbeats 8000000
set_option maxRecDepth 100000
attribute [local go_sem ↓] Go.wp_at_zero Go.wp_at_succ
def Fin (n i : Nat) (l : List Int) : Prop := l.length = n ∧ ∀ j, j < n → gd l j = if j < i then (j : Int) else 0
theorem Fin.next {n i : Nat} {l : List Int} (h : Fin n i l) (hi : i < n) : Fin n (i + 1) (l.set i (i : Int)) :=
 ⟨by rw [List.length_set]; exact h.1, fun j hj => by
  rw [gd_set (by rw [h.1]; exact hi)]
  by_cases e : j = i
  ·rw [if_pos e, if_pos (by omega), e]
  ·rw [if_neg e, h.2 j hj]
   by_cases c : j < i
   ·rw [if_pos c, if_pos (by omega)]
   ·rw [if_neg c, if_neg (by omega)]⟩
theorem greatest_any (rs : List Int) (gr n : Nat) (w : World) (h : Uw w gr n rs) (hn : n ≤ 17592186044416) :
  Calls Tryz.prog 82 #[.slice (some ⟨gr, 0, none⟩) n n] w fun e w' => ∃ g pl, e = .returned (.slice (some ⟨g, 0, none⟩) n n) ∧ Uz w' g n pl ∧ Ord rs pl ∧ w.heap.size ≤ g ∧ Below w.heap.size w w' := by
 obtain ⟨W1, hW1⟩ : ∃ W, w.alloc (.cells #[.slice (some ⟨gr, 0, none⟩) n n] 46) = W := ⟨_, rfl⟩
 obtain ⟨W2, hW2⟩ : ∃ W, W1.alloc (.cells (madeCells #[.int .i64 0] n) 3) = W := ⟨_, rfl⟩
 have b1 : Below w.heap.size w W1 := by rw [← hW1]; exact (Below.refl _ w).alloc (Nat.le_refl _) _
 have b2 : Below W1.heap.size W1 W2 := by rw [← hW2]; exact (Below.refl _ W1).alloc (Nat.le_refl _) _
 have s1 : W1.heap.size = w.heap.size + 1 := by rw [← hW1]; simp
 have hbx : W1.heap[w.heap.size]? = some (.cells #[.slice (some ⟨gr, 0, none⟩) n n] 46 (0, 0)) := by rw [← hW1]; exact World.alloc_heap_new _ _
 have c0 : W1.cell? ⟨w.heap.size, 0, none⟩ = some (.slice (some ⟨gr, 0, none⟩) n n) := row_cell hbx 0
 have m1 := make_i n hn W1
 rw [hW2] at m1
 have U1 := hid (show Uz W2 W1.heap.size n (List.replicate n 0) from by rw [← hW2]; exact uz_made W1 n)
 have hlt := h.lt
 have CB := hid (show Cb W2 w.heap.size gr n n rs from by
  have hu := (h.on b1).on b2
  refine ⟨?_, fun i hi => hu.cell hi, ?_, hu.lt⟩
  ·rw [b2.cell (p := ⟨w.heap.size, 0, none⟩) (by show w.heap.size < W1.heap.size; omega)]; exact c0
  ·have := b2.size; omega)
 have B2 := hid (show Below w.heap.size w W2 from b1.trans (b2.mono b1.size))
 obtain ⟨B, hB⟩ : ∃ B, w.heap.size = B := ⟨_, rfl⟩
 obtain ⟨g, hg⟩ : ∃ g, W1.heap.size = g := ⟨_, rfl⟩
 have HGG := hid (show B ≠ g ∧ gr ≠ g ∧ B ≤ g ∧ w.heap.size ≤ g from ⟨by omega, by omega, by omega, by omega⟩)
 have HF0 := hid (show Fin n 0 (List.replicate n 0) from ⟨by simp, fun j hj => by rw [gd_zero, if_neg (by omega)]⟩)
 have HLR := hid h.len
 have HW1 := hid hW1
 rw [hB] at c0 CB
 rw [hg] at m1 U1
 have HB := hid hB
 clear hW1 hW2 b1 b2 s1 hbx hlt h hB hg
 go_enter Tryz.func82, Tryz.ntmps82
 go_upto_region 1 with fail
 rw [HW1.out, HB.out]
 go_upto_region 3 with fail
 clear c0 m1
 go_loopw [10] (fun iv wr => ∃ i l, i ≤ n ∧ iv = .int .i64 (i : Nat) ∧ Hid (Uz wr g n l) ∧ Hid (Fin n i l) ∧ Hid (Kp (fun b => b = g) W2 wr)) (fun iv _ => n - (intOf iv).toNat)
 case atStart => exact ⟨0, _, Nat.zero_le _, rfl, U1, HF0, Kp.refl _ _⟩
 case round =>
  obtain ⟨i, l, hin, rfl, V1, F1, K1⟩ := hrel
  clear U1 HF0
  by_cases hlt : i < n
  ·have c1 := V1.out.cell hlt
   have f1 := V1.out.frz i
   have i0 : (0 : Int) ≤ (i : Int) := by omega
   have i1 : (i : Int) < (n : Int) := by omega
   have wi : IntKind.i64.wrap ((i : Int) + 1) = ((i + 1 : Nat) : Int) := by rw [IntKind.wrap_i64]; omega
   have N1 := hid (F1.out.next hlt)
   have V2 := hid (V1.out.set hlt (i : Int))
   have K2 := hid (K1.out.trans (Kp.set wr g i (.int .i64 (i : Int))) (fun _ _ e => e))
   have HLT := hid hlt
   go_wp2
   go_roundw
   case rel => exact ⟨i + 1, _, HLT.out, by go_num, V2, N1, K2⟩
   case measure => simp [intOf]; omega
  ·obtain rfl : i = n := by omega
   have CQ := cq_of (g := g) (CB.out.kept K1.out HGG.out.1 HGG.out.2.1) HGG.out.1 HGG.out.2.1
   have el : l = pls i := by
    apply List.ext_getElem
    ·rw [pls_len]; exact F1.out.1
    ·intro j h1 h2
     rw [pls_len] at h2
     have := F1.out.2 j h2
     rw [if_pos h2, gd_get h1] at this
     rw [this, ← gd_get (by rw [pls_len]; exact h2), gd_pls h2]
   rw [el] at V1
   have CS := hid (sorted_any g i i i B _ (pls i) wr V1.out (by omega) (fun x hx => gd_pls hx) (Nat.le_refl _) CQ)
   clear CQ el F1
   go_wp2_with (go_at_call 109; with_reducible refine CS.out.mono ?_; rintro e w4 ⟨rfl, z⟩; have HZ := hid z; clear z)
   go_ret
   obtain ⟨pl, ⟨p1, p2⟩, u1, k1⟩ := HZ.out
   have hlr := HLR.out
   refine ⟨g, pl, rfl, u1, ⟨by rw [hlr]; exact p1, by rw [hlr]; exact p2⟩, HGG.out.2.2.2, B2.out.trans (Kp.below (K1.out.trans k1 (fun _ _ e => e)) B2.out.size (fun j hj e => by have := HGG.out; omega))⟩
end Go.Proofs.YtlhbgaiiehljpaaGreat.Ss
namespace Go.Proofs.YtlhbgaiiehljpaaGreat.Ss
open Go.RowKit Go.Deep
set_option linter.unusedVariables false
set_option linter.unusedSimpArgs false
set_option maxHeartbeats 8000000
set_option maxRecDepth 100000
attribute [local go_sem ↓] Go.wp_at_zero Go.wp_at_succ
/-- t of the places have one more. -/
structure Ad (pp pl ps : List Int) (t : Nat) : Prop where
 len : ps.length = pp.length
 sum : sumL ps = sumL pp + t
 at_ : ∀ i, i < pp.length → gd ps i = gd pp i + if (i : Int) ∈ pl.take t then 1 else 0
theorem Ad.start (pp pl : List Int) : Ad pp pl pp 0 := ⟨rfl, by simp, fun i hi => by rw [if_neg (by simp)]; omega⟩
theorem Ord.fresh {rs pl : List Int} (h : Ord rs pl) {t : Nat} (ht : t < rs.length) : gd pl t ∉ pl.take t := fun hm => by
 obtain ⟨s, s1, s2, e⟩ := mem_take.1 hm
 have := h.so s t (Nat.zero_le _) s1 ht
 rw [e] at this
 unfold lt at this
 omega
theorem Ad.next {pp pl ps rs : List Int} {t i : Nat} (h : Ad pp pl ps t) (ho : Ord rs pl) (ht : t < rs.length) (hl : pp.length = rs.length) (hi : i < rs.length) (e : gd pl t = i) : Ad pp pl (ps.set i (gd ps i + 1)) (t + 1) := by
 have hl1 := h.len
 have hpl := ho.len
 have key : ∀ x : Int, x ∈ pl.take (t + 1) ↔ x ∈ pl.take t ∨ x = i := fun x => by
  rw [mem_take, mem_take]
  constructor
  ·rintro ⟨s, s1, s2, s3⟩
   by_cases c : s = t
   ·rw [c, e] at s3; exact .inr s3.symm
   ·exact .inl ⟨s, by omega, s2, s3⟩
  ·rintro (⟨s, s1, s2, s3⟩ | h1)
   ·exact ⟨s, by omega, s2, s3⟩
   ·exact ⟨t, by omega, by omega, by rw [e, h1]⟩
 have hf := ho.fresh ht
 rw [e] at hf
 refine ⟨by rw [List.length_set]; exact h.len, ?_, fun j hj => ?_⟩
 ·rw [sumL_set (by omega), h.sum]
  omega
 ·rw [gd_set (by omega)]
  by_cases c : j = i
  ·rw [if_pos c, if_pos ((key _).2 (.inr (by rw [c]))), h.at_ i (by omega), if_neg hf, c]
   omega
  ·rw [if_neg c, h.at_ j hj]
   by_cases c2 : (j : Int) ∈ pl.take t
   ·rw [if_pos c2, if_pos ((key _).2 (.inl c2))]
   ·rw [if_neg c2, if_neg (fun h9 => by
     rcases (key _).1 h9 with h9 | h9
     ·exact c2 h9
     ·exact c (by omega))]
/-- what Share hands back. -/
structure Sh (A S : Int) (ws ps : List Int) : Prop where
 len : ps.length = ws.length
 sum : sumL ps = A
 up : ∀ i, i < ws.length → gd ps i = A * gd ws i / S ∨ gd ps i = A * gd ws i / S + 1
 no : ∀ i, i < ws.length → gd ws i = 0 → gd ps i = 0
 eq : ∀ i j, j < i → i < ws.length → gd ws i = gd ws j → gd ps i ≤ gd ps j
 wd : ∀ i, i < ws.length → 0 ≤ gd ps i ∧ gd ps i ≤ A
theorem gd_map {ws : List Int} {f : Int → Int} {i : Nat} (h : i < ws.length) : gd (ws.map f) i = f (gd ws i) := by
 rw [gd_get (by rw [List.length_map]; exact h), List.getElem_map, gd_get h]
theorem Ad.done {A S : Int} {ws pl ps : List Int} {k : Nat} (hA : 0 ≤ A) (hS : 0 < S) (hw : ∀ i, i < ws.length → 0 ≤ gd ws i ∧ gd ws i ≤ S) (ho : Ord (ws.map fun x => A * x % S) pl) (hk : k ≤ ((ws.map fun w => A * w % S).filter fun q => decide (0 < q)).length) (hsum : A = sumL (ws.map fun x => A * x / S) + k) (h : Ad (ws.map fun x => A * x / S) pl ps k) : Sh A S ws ps := by
 have hl : ps.length = ws.length := by rw [h.len, List.length_map]
 have hat : ∀ i, i < ws.length → gd ps i = A * gd ws i / S + if (i : Int) ∈ pl.take k then 1 else 0 := fun i hi => by
  rw [h.at_ i (by rw [List.length_map]; exact hi), gd_map hi]
 have hrr : ∀ i : Nat, i < ws.length → rr (ws.map fun x => A * x % S) (i : Int) = A * gd ws i % S := fun i hi => by
  unfold rr
  rw [Int.toNat_natCast, gd_map hi]
 have hpos : ∀ i : Nat, i < ws.length → (i : Int) ∈ pl.take k → 0 < A * gd ws i % S := fun i hi hm => by
  obtain ⟨s, s1, s2, s3⟩ := mem_take.1 hm
  have := ho.pos (fun q hq => (rests_bd hS q hq).1) (s := s) (by omega)
  rw [s3, hrr i hi] at this
  exact this
 refine ⟨hl, by rw [h.sum]; omega, fun i hi => ?_, fun i hi h0 => ?_, fun i j hji hi he => ?_, fun i hi => ?_⟩
 ·rw [hat i hi]
  split
  ·exact .inr rfl
  ·exact .inl (by omega)
 ·rw [hat i hi, h0]
  have e0 : A * 0 / S = 0 := by rw [Int.mul_zero, Int.zero_ediv]
  rw [e0]
  split
  ·rename_i hm
   have := hpos i hi hm
   rw [h0, Int.mul_zero, Int.zero_emod] at this
   omega
  ·rfl
 ·rw [hat i hi, hat j (by omega), he]
  by_cases c : (i : Int) ∈ pl.take k
  ·have c2 : (j : Int) ∈ pl.take k := by
    obtain ⟨s, s1, s2, s3⟩ := mem_take.1 c
    have hjm : (j : Int) ∈ pl := ho.pm.mem_iff.2 (mem_pls.2 ⟨j, by rw [List.length_map]; omega, rfl⟩)
    obtain ⟨u, hu, e⟩ := List.getElem_of_mem hjm
    rw [← gd_get hu] at e
    by_cases c3 : u < k
    ·exact mem_take.2 ⟨u, c3, hu, e⟩
    ·have := ho.so s u (Nat.zero_le _) (by omega) (by rw [← ho.len]; exact hu)
     rw [s3, e] at this
     unfold lt at this
     rw [hrr i hi, hrr j (by omega), he] at this
     omega
   rw [if_pos c, if_pos c2]
   omega
  ·rw [if_neg c]
   split <;> omega
 ·obtain ⟨w0, w1⟩ := hw i hi
  have m1 : A * gd ws i ≤ A * S := Int.mul_le_mul_of_nonneg_left w1 hA
  have m0 : 0 ≤ A * gd ws i := Int.mul_nonneg hA w0
  have q0 : 0 ≤ A * gd ws i / S := Int.ediv_nonneg m0 (by omega)
  have e := Int.mul_ediv_add_emod (A * gd ws i) S
  have r0 := Int.emod_nonneg (A * gd ws i) (show S ≠ 0 by omega)
  have q1 : A * gd ws i / S ≤ A := by
   have : S * (A * gd ws i / S) ≤ S * A := by rw [Int.mul_comm S A]; omega
   exact Int.le_of_mul_le_mul_left this hS
  rw [hat i hi]
  split
  ·rename_i hm
   have hp := hpos i hi hm
   refine ⟨by omega, ?_⟩
   have : S * (A * gd ws i / S) < S * A := by rw [Int.mul_comm S A]; omega
   have := Int.lt_of_mul_lt_mul_left this (by omega)
   omega
  ·omega
/-- what is increased has room. -/
theorem Ad.room {A S : Int} {ws pl ps : List Int} {k t i : Nat} (hA : 0 ≤ A) (hS : 0 < S) (hw : ∀ i, i < ws.length → 0 ≤ gd ws i ∧ gd ws i ≤ S) (ho : Ord (ws.map fun x => A * x % S) pl) (hk : k ≤ ((ws.map fun w => A * w % S).filter fun q => decide (0 < q)).length) (ht : t < k) (hi : i < ws.length) (e : gd pl t = i) (h : Ad (ws.map fun x => A * x / S) pl ps t) : 0 ≤ gd ps i ∧ gd ps i + 1 ≤ A := by
 have hle : ((ws.map fun w => A * w % S).filter fun q => decide (0 < q)).length ≤ (ws.map fun w => A * w % S).length := List.length_filter_le _ _
 rw [List.length_map] at hle
 have hf := ho.fresh (t := t) (by rw [List.length_map]; omega)
 rw [e] at hf
 rw [h.at_ i (by rw [List.length_map]; exact hi), if_neg hf, gd_map hi]
 have hp := ho.pos (fun q hq => (rests_bd hS q hq).1) (s := t) (by omega)
 rw [e] at hp
 unfold rr at hp
 rw [Int.toNat_natCast, gd_map hi] at hp
 obtain ⟨w0, w1⟩ := hw i hi
 have m1 : A * gd ws i ≤ A * S := Int.mul_le_mul_of_nonneg_left w1 hA
 have m0 : 0 ≤ A * gd ws i := Int.mul_nonneg hA w0
 have q0 : 0 ≤ A * gd ws i / S := Int.ediv_nonneg m0 (by omega)
 have e2 := Int.mul_ediv_add_emod (A * gd ws i) S
 have : S * (A * gd ws i / S) < S * A := by rw [Int.mul_comm S A]; omega
 have := Int.lt_of_mul_lt_mul_left this (by omega)
 omega
theorem sum_w {ws : List Int} {b off : Nat} (cap : Nat) (w : World) (hws : ∀ x ∈ ws, Word x) (hn : ws.length ≤ 17592186044416) (hr : Rw w b off ws) : Calls Tryz.prog 29 #[.slice (some ⟨b, off, none⟩) ws.length cap] w fun e w' => e = .returned (.tuple #[.int .u64 (sumV ws), .int .i64 (sumE ws)]) ∧ w' = w := sum_any ws b off cap w (by omega) hws hr.2
theorem share_over (A : Int) (ws : List Int) (b off cap : Nat) (w : World) (hws : ∀ x ∈ ws, Word x) (h0 : 0 < ws.length) (hn : ws.length ≤ 17592186044416) (hr : Rw w b off ws) (hS : ¬ sumL ws < 18446744073709551616) :
  Calls Tryz.prog 61 #[.int .u64 A, .slice (some ⟨b, off, none⟩) ws.length cap] w fun e w' => e = .returned (.tuple #[.slice none 0 0, .int .i64 10]) ∧ w' = w := by
 have C := hid (sum_w cap w hws hn hr)
 rw [show sumV ws = 0 from if_neg hS, show sumE ws = 10 from if_neg hS] at C
 obtain ⟨n, hnn⟩ : ∃ n, ws.length = n := ⟨_, rfl⟩
 rw [hnn] at C h0 ⊢
 have e0 : ((n : Int) == 0) = false := by simp; omega
 clear hws hn hr hS hnn
 go_enter Tryz.func61, Tryz.ntmps61
 go_wp2_with (go_at_call 29; with_reducible refine C.out.mono ?_; rintro e w1 ⟨rfl, h1⟩; have h1 := h1.symm; subst h1)
 go_ret2
 exact ⟨rfl, rfl⟩
theorem share_zero (A : Int) (ws : List Int) (b off cap : Nat) (w : World) (hws : ∀ x ∈ ws, Word x) (h0 : 0 < ws.length) (hn : ws.length ≤ 17592186044416) (hr : Rw w b off ws) (hS : sumL ws = 0) :
  Calls Tryz.prog 61 #[.int .u64 A, .slice (some ⟨b, off, none⟩) ws.length cap] w fun e w' => e = .returned (.tuple #[.slice none 0 0, .int .i64 11]) ∧ w' = w := by
 have C := hid (sum_w cap w hws hn hr)
 rw [show sumV ws = 0 from by unfold sumV; rw [hS]; rfl, show sumE ws = 0 from by unfold sumE; rw [hS]; rfl] at C
 obtain ⟨n, hnn⟩ : ∃ n, ws.length = n := ⟨_, rfl⟩
 rw [hnn] at C h0 ⊢
 have e0 : ((n : Int) == 0) = false := by simp; omega
 clear hws hn hr hS hnn
 go_enter Tryz.func61, Tryz.ntmps61
 go_wp2_with (go_at_call 29; with_reducible refine C.out.mono ?_; rintro e w1 ⟨rfl, h1⟩; have h1 := h1.symm; subst h1)
 go_ret2
 exact ⟨rfl, rfl⟩
theorem share_none (A : Int) (q : Option Addr) (cap : Nat) (w : World) : Calls Tryz.prog 61 #[.int .u64 A, .slice q 0 cap] w fun e w' => e = .returned (.tuple #[.slice none 0 0, .int .i64 1]) ∧ w' = w := by
 go_enter Tryz.func61, Tryz.ntmps61
 go_wp2
 go_ret2
 exact ⟨rfl, rfl⟩
end Go.Proofs.YtlhbgaiiehljpaaGreat.Ss
namespace Go.Proofs.YtlhbgaiiehljpaaGreat.Ss
open Go.RowKit Go.Deep
set_option linter.unusedVariables false
set_option linter.unusedSimpArgs false
set_option maxHeartbeats 8000000
set_option maxRecDepth 100000
attribute [local go_sem ↓] Go.wp_at_zero Go.wp_at_succ
theorem Uz.on {w w' : World} {g n : Nat} {l : List Int} (h : Uz w g n l) (hb : Below w.heap.size w w') : Uz w' g n l := by
 obtain ⟨cur, e, _⟩ := h.row
 exact h.same (hb.block g (row_lt e))
theorem Uz.lt {w : World} {g n : Nat} {l : List Int} (h : Uz w g n l) : g < w.heap.size := by
 obtain ⟨cur, e, _⟩ := h.row
 exact row_lt e
theorem word_le {ws : List Int} (hws : ∀ x ∈ ws, Word x) {i : Nat} (hi : i < ws.length) : 0 ≤ gd ws i ∧ gd ws i ≤ sumL ws := by
 have hm : gd ws i ∈ ws := gd_mem hi
 refine ⟨(hws _ hm).1, ?_⟩
 have h1 := sumL_take_le ws (fun x hx => (hws x hx).1) (i + 1)
 have h2 := sumL_take_le ws (fun x hx => (hws x hx).1) i
 have h3 := sumL_take_gd (ws := ws) hi (fun x => x)
 simp only [List.map_id'] at h3
 omega
end Go.Proofs.YtlhbgaiiehljpaaGreat.Ss
namespace Go.Proofs.YtlhbgaiiehljpaaGreat.Ss
open Go.RowKit Go.Deep
set_option linter.unusedVariables false
set_option linter.unusedSimpArgs false
set_option maxHeartbeats 8000000
set_option maxRecDepth 100000
attribute [local go_sem ↓] Go.wp_at_zero Go.wp_at_succ
theorem own_same {base : Nat} {w w' : World} {e : TypeId} {size n : Nat} {v : Value} {xs : List Value} (h : w.ownsRow base e size v n xs) (hs : ∀ g, v.ownBlock = some g → w'.heap[g]? = w.heap[g]?) : w'.ownsRow base e size v n xs := by
 obtain ⟨h1, h2 | ⟨g, c, cur, rfl, r1, r2, r⟩⟩ := h
 ·exact ⟨h1, .inl h2⟩
 ·exact ⟨h1, .inr ⟨g, c, cur, rfl, r1, (hs g rfl).trans r2, r⟩⟩
theorem own_ty {base : Nat} {w : World} {e : TypeId} {size n : Nat} {v : Value} {xs : List Value} (h : w.ownsRow base e size v n xs) {g : Nat} (hg : v.ownBlock = some g) : ∃ cur, w.heap[g]? = some (.cells cur e (0, 0)) := by
 obtain ⟨h1, ⟨rfl, _⟩ | ⟨g', c, cur, rfl, r1, r2, r⟩⟩ := h
 ·cases hg
 ·cases hg; exact ⟨cur, r2⟩
theorem own_on {base : Nat} {w w' : World} {e : TypeId} {size n : Nat} {v : Value} {xs : List Value} (h : w.ownsRow base e size v n xs) (hb : Below w.heap.size w w') : w'.ownsRow base e size v n xs :=
 own_same h (fun g hg => by obtain ⟨c, e⟩ := own_ty h hg; exact hb.block g (row_lt e))
theorem grown_refl (w : World) (r : Option Nat) : w.grownBy w r := ⟨rfl, rfl, rfl, Nat.le_refl _, fun _ _ _ => rfl⟩
theorem own_form {base : Nat} {w : World} {e : TypeId} {size n : Nat} {v : Value} {xs : List Value} (h : w.ownsRow base e size v n xs) : ∃ p c, v = .slice p n c := by
 obtain ⟨_, ⟨rfl, rfl⟩ | ⟨g, c, cur, rfl, _⟩⟩ := h
 ·exact ⟨none, 0, rfl⟩
 ·exact ⟨_, _, rfl⟩
theorem own_nil (w : World) (base : Nat) (e : TypeId) (size : Nat) : w.ownsRow base e size (.slice none 0 0) 0 [] := ⟨by simp, .inl ⟨rfl, rfl⟩⟩
theorem info_parts9 {e : TypeId} {z : Value} {size bytes : Nat} (h : (Tryz.prog.info? e).map (fun i => (i.zero, i.size, i.bytes)) = some (some z, size, bytes)) : ∃ i0, Tryz.prog.info? e = some i0 ∧ i0.zero = some z ∧ i0.size = size ∧ i0.bytes = bytes := by
 cases hq : Tryz.prog.info? e with
 | none => rw [hq] at h; cases h
 | some i =>
  rw [hq] at h
  simp only [Option.map_some, Option.some.injEq, Prod.mk.injEq] at h
  exact ⟨i, rfl, h.1, h.2.1, h.2.2⟩
theorem wpList_app_rd {w : World} {ops : Array Oper} {rest : List Oper} {oo : Oper} {a : Act} {Q : Exit → Act → World → Prop} (hgd : oo.guard = none) (s x : Operand) (t e : TypeId) (z : Value) (size bytes : Nat)
  (ho : oo.op = .call { callee := .builtin .append, args := #[s, x], argTypes := #[t, t] }) (ht : Tryz.prog.underlying t = some (.slice e)) (hinf : (Tryz.prog.info? e).map (fun i => (i.zero, i.size, i.bytes)) = some (some z, size, bytes)) (hzs : z.cells.size = size) (hsz : 0 < size)
  (base : Nat) (v : Value) (n : Nat) (ys : List Value) (hs : a.eval s = v) (hown : w.ownsRow base e size v n ys)
  (q : Option Addr) (c m : Nat) (xs : List Value) (hx : a.eval x = .slice q m c) (hq : q = none → m = 0 ∧ c = 0) (hln : xs.length = m * size) (hrd : ∀ ad, q = some ad → ∀ j u, xs[j]? = some u → w.cell? (ad.add j) = some u) (h1 : ∀ u ∈ xs, u.oneCell' = true)
  (h63 : n + m ≤ maxLen) (hbytes : (n + m) * bytes ≤ 140737488355328) (hbase : base ≤ w.heap.size)
  (h : ∀ v' w', w'.ownsRow base e size v' (n + m) (ys ++ xs) → w.grownBy w' v.ownBlock → wpList Tryz.prog ops Q rest (a.put oo.dst v') w') : wpList Tryz.prog ops Q (oo :: rest) a w := by
 obtain ⟨i0, hi, hz0, hz1, hz2⟩ := info_parts9 hinf
 cases q with
 | none =>
  obtain ⟨rfl, rfl⟩ := hq rfl
  obtain rfl : xs = [] := List.length_eq_zero_iff.1 (by simpa using hln)
  exact wpList_append_own_none hgd s x t ho base e i0 size ht hi v n ys hs hown hx (h v w (by simpa using hown) (grown_refl _ _))
 | some ad =>
  exact wpList_append_own _ hgd s x t ho base e i0 _ size bytes ht hi hz0 hz1 hz2 hzs hsz v n ys hs hown ad m c xs hx hln (hrd ad rfl) h1 h63 hbytes hbase (fun v' w' h2 h3 _ => h v' w' h2 h3)
end Go.Proofs.YtlhbgaiiehljpaaGreat.Ss
namespace Go.Proofs.YtlhbgaiiehljpaaGreat.Ss
set_option linter.unusedVariables false
set_option linter.unusedSimpArgs false
/-- the rests, those that were picked taken out. -/
structure Pk (rs pl R : List Int) (t : Nat) : Prop where
 len : R.length = rs.length
 at_ : ∀ i, i < rs.length → gd R i = if (i : Int) ∈ pl.take t then 0 else gd rs i
theorem Pk.start (rs pl : List Int) : Pk rs pl rs 0 := ⟨rfl, fun i hi => by rw [if_neg (by simp)]⟩
/-- the first of the greatest up to k. -/
structure Bs (R : List Int) (k b : Nat) : Prop where
 lt : b < k
 le : ∀ i, i < k → gd R i ≤ gd R b
 fi : ∀ i, i < b → gd R i < gd R b
theorem Bs.start (R : List Int) : Bs R 1 0 := ⟨by omega, fun i hi => by rw [show i = 0 by omega]; exact Int.le_refl _, fun i hi => by omega⟩
theorem Bs.up {R : List Int} {k b : Nat} (h : Bs R k b) (hg : gd R b < gd R k) : Bs R (k + 1) k :=
 ⟨by omega, fun i hi => by
  by_cases c : i = k
  ·rw [c]; exact Int.le_refl _
  ·have := h.le i (by omega); omega, fun i hi => by have := h.le i hi; omega⟩
theorem Bs.stay {R : List Int} {k b : Nat} (h : Bs R k b) (hg : ¬ gd R b < gd R k) : Bs R (k + 1) b :=
 ⟨by have := h.lt; omega, fun i hi => by
  by_cases c : i = k
  ·rw [c]; omega
  ·exact h.le i (by omega), h.fi⟩
theorem Pk.next {rs pl R : List Int} {t b : Nat} (h : Pk rs pl R t) (ht : t < pl.length) (hb : b < rs.length) (e : gd pl t = (b : Int)) : Pk rs pl (R.set b 0) (t + 1) := by
 refine ⟨by rw [List.length_set]; exact h.len, fun i hi => ?_⟩
 rw [gd_set (by rw [h.len]; exact hb)]
 by_cases c : i = b
 ·rw [if_pos c, if_pos (mem_take.2 ⟨t, by omega, ht, by rw [e, c]⟩)]
 ·rw [if_neg c, h.at_ i hi]
  by_cases c2 : (i : Int) ∈ pl.take t
  ·rw [if_pos c2, if_pos (by
    obtain ⟨s, s1, s2, s3⟩ := mem_take.1 c2
    exact mem_take.2 ⟨s, by omega, s2, s3⟩)]
  ·rw [if_neg c2, if_neg (fun h9 => by
    obtain ⟨s, s1, s2, s3⟩ := mem_take.1 h9
    by_cases c3 : s = t
    ·rw [c3, e] at s3; omega
    ·exact c2 (mem_take.2 ⟨s, by omega, s2, s3⟩))]
end Go.Proofs.YtlhbgaiiehljpaaGreat.Ss
