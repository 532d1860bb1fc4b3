/-
  BrB
-/
import Derived.Test.YtlhbgaiiehljpaaGreatGAk
import Derived.Laws.Bits64
import Derived.Laws.Bits64b
import Derived.WalkKit
import Derived.Test.YtlhbgaiiehljpaaGreatGAa
import Derived.WalkLawsBesides
import Derived.Test.YtlhbgaiiehljpaaGreatGAg
import Derived.Shelf.Spec.BitsCarry
namespace Go.Proofs.YtlhbgaiiehljpaaGreat.Ss
open Go.RowKit Go.Deep BigM
set_option linter.unusedVariables false
set_option linter.unusedSimpArgs false
set_option maxHeartbeats 8000000
set_option maxRecDepth 100000
attribute [local go_sem ↓] Go.wp_at_zero Go.wp_at_succ
/-- how a loss is borne, and the error. -/
def CvR (A B H : Int) (ws : List Int) (er o h : Int) (l : List Int) (lf : Int) : Prop :=
 (¬ sumL ws < 18446744073709551616 ∧ er = 10 ∧ o = 0 ∧ h = 0 ∧ l = [] ∧ lf = 0) ∨
 (sumL ws < 18446744073709551616 ∧ er = 0 ∧ o = mn A B ∧ h = mn (A - mn A B) H ∧ Shd (mn (A - mn A B - mn (A - mn A B) H) (sumL ws)) ws l ∧ lf = A - mn A B - mn (A - mn A B) H - mn (A - mn A B - mn (A - mn A B) H) (sumL ws))
theorem CvR.uniq {A B H : Int} {ws : List Int} {er o h er' o' h' : Int} {l l' : List Int} {lf lf' : Int} (a : CvR A B H ws er o h l lf) (b : CvR A B H ws er' o' h' l' lf') : er = er' ∧ o = o' ∧ h = h' ∧ l = l' ∧ lf = lf' := by
 rcases a with ⟨a0, rfl, rfl, rfl, rfl, rfl⟩ | ⟨a0, rfl, rfl, rfl, a5, rfl⟩ <;> rcases b with ⟨b0, rfl, rfl, rfl, rfl, rfl⟩ | ⟨b0, rfl, rfl, rfl, b5, rfl⟩
 ·exact ⟨rfl, rfl, rfl, rfl, rfl⟩
 ·exact absurd b0 a0
 ·exact absurd a0 b0
 ·exact ⟨rfl, rfl, rfl, a5.uniq b5, rfl⟩
theorem CvR.len {A B H : Int} {ws : List Int} {er o h : Int} {l : List Int} {lf : Int} (a : CvR A B H ws er o h l lf) : l.length ≤ ws.length := by
 rcases a with ⟨a0, rfl, rfl, rfl, rfl, rfl⟩ | ⟨a0, rfl, rfl, rfl, a5, rfl⟩
 ·simp
 ·exact Nat.le_of_eq a5.len
theorem bear_any (A B H : Int) (fs : List Fd) (n : Nat) (q : Option Addr) (cap : Nat) (w : World) (hA : Word A) (hB : Word B) (hH : Word H) (hf : ∀ x ∈ fs, Word x.ct) (hl : fs.length = n) (hn : n ≤ 17592186044416) (hr : Fz w q fs) :
  Calls Tryz.prog 13 #[.int .u64 A, .int .u64 B, .int .u64 H, .slice q n cap] w fun e w' => ∃ er o h lf p l, e = .returned (.tuple #[.agg #[.int .u64 o, .int .u64 h, .slice p (l : List Int).length l.length, .int .u64 lf], .int .i64 er]) ∧ CvR A B H (cts fs) er o h l lf ∧ Full w' w.heap.size p l ∧ Below w.heap.size w w' := by
 have hmk := make_w n hn
 obtain ⟨W1, hW1⟩ : ∃ W, w.alloc (.cells #[.int .u64 0, .int .u64 0, .slice none 0 0, .int .u64 0] 48) = W := ⟨_, rfl⟩
 obtain ⟨W2, hW2⟩ : ∃ W, W1.alloc (.cells (madeCells #[.int .u64 0] n) 31) = W := ⟨_, rfl⟩
 have m1 := hmk W1
 rw [hW2] at m1
 have b1 : Below w.heap.size w W1 := by rw [← hW1]; exact (Below.refl _ w).alloc (Nat.le_refl _) _
 have b2 : Below W1.heap.size W1 W2 := by rw [← hW2]; exact (Below.refl _ W1).alloc (Nat.le_refl _) _
 have s1 : W1.heap.size = w.heap.size + 1 := by rw [← hW1]; simp
 have UW := hid (show Uw W2 W1.heap.size n (List.replicate n 0) from by rw [← hW2]; exact uw_made W1 n)
 have B2 := hid (show Below w.heap.size w W2 from b1.trans (b2.mono b1.size))
 have R1 := hid (show W2.heap[w.heap.size]? = some (.cells #[.int .u64 0, .int .u64 0, .slice none 0 0, .int .u64 0] 48 (0, 0)) from by rw [b2.block _ (by omega), ← hW1]; exact World.alloc_heap_new _ _)
 obtain ⟨g8, hg8⟩ : ∃ g, w.heap.size = g := ⟨_, rfl⟩
 obtain ⟨gw, hgw⟩ : ∃ g, W1.heap.size = g := ⟨_, rfl⟩
 have HG := hid (show g8 < gw ∧ w.heap.size = g8 ∧ gw < W2.heap.size from ⟨by omega, hg8, by have := UW.out.lt; omega⟩)
 rw [hgw] at m1 UW
 rw [hg8] at R1
 have HA := hid hA
 have HB := hid hB
 have HH := hid hH
 have HF := hid hf
 have HL := hid hl
 have HR := hid hr
 have HS := hid hW1
 have F0 := hid (show Fil (cts fs) (fun x => x) 0 (List.replicate n 0) from by rw [← hl, ← cts_len]; exact Fil.start _ _)
 clear hmk hW2 b1 b2 s1 hA hB hH hf hl hr hgw
 go_enter Tryz.func13, Tryz.ntmps13
 go_upto_region 3 with fail
 go_loopw [22] (fun iv wr => ∃ i lw, i ≤ n ∧ iv = .int .i64 (i : Nat) ∧ Hid (Uw wr gw n lw) ∧ Hid (Fil (cts fs) (fun x => x) i lw) ∧ Hid (wr.heap[g8]? = some (.cells #[.int .u64 0, .int .u64 0, .slice none 0 0, .int .u64 0] 48 (0, 0))) ∧ Hid (Below w.heap.size w wr)) (fun iv _ => n - (intOf iv).toNat)
 case atStart => exact ⟨0, _, Nat.zero_le _, rfl, UW, F0, R1, B2⟩
 case round =>
  obtain ⟨i, lw, hin, rfl, V1, F1, RR, BW⟩ := hrel
  clear UW B2 F0 R1 m1
  by_cases hlt : i < n
  ·have hi : i < fs.length := by rw [HL.out]; exact hlt
   obtain ⟨b, off, rfl, hb, k1, k2⟩ := (HR.out.on BW.out) i hi
   obtain ⟨m, hm⟩ : ∃ m, (fs[i]'hi).mb = m := ⟨_, rfl⟩
   obtain ⟨c, hc⟩ : ∃ m, (fs[i]'hi).ct = m := ⟨_, rfl⟩
   have N1 := hid (F1.out.next (by rw [cts_len]; exact hi))
   rw [cts_gd hi] at N1
   rw [hm] at k1
   rw [hc] at k2 N1
   obtain ⟨V, hV⟩ : ∃ V, wr.alloc (.cells #[.int .u32 m, .int .u64 c] 52) = V := ⟨_, rfl⟩
   have bV : Below wr.heap.size wr V := by rw [← hV]; exact (Below.refl _ wr).alloc (Nat.le_refl _) _
   have z1 : V.heap[wr.heap.size]? = some (.cells #[.int .u32 m, .int .u64 c] 52 (0, 0)) := by rw [← hV]; exact World.alloc_heap_new _ _
   have z2 : V.cell? ⟨wr.heap.size, 1, none⟩ = some (.int .u64 c) := row_cell z1 1
   have UV := hid (V1.out.on bV)
   have c1 := UV.out.cell hlt
   have f1 := UV.out.frz i
   have UX := hid (UV.out.set hlt c)
   have KX := hid (Kp.set V gw i (.int .u64 c))
   have BV := hid (BW.out.trans (bV.mono BW.out.size))
   have BX := hid (show Below w.heap.size w (V.setCell ⟨gw, i, none⟩ (.int .u64 c)) from BV.out.trans (Kp.below KX.out BV.out.size (fun j hj e => by have := HG.out; omega)))
   have RX := hid (show (V.setCell ⟨gw, i, none⟩ (.int .u64 c)).heap[g8]? = some (.cells #[.int .u64 0, .int .u64 0, .slice none 0 0, .int .u64 0] 48 (0, 0)) from by rw [KX.out.obj g8 (row_lt ((bV.block g8 (row_lt RR.out)).trans RR.out)) (by have := HG.out; omega), bV.block g8 (row_lt RR.out)]; exact RR.out)
   have i0 : (0 : Int) ≤ (i : Int) := by omega
   have i1 : (i : Int) < (n : Int) := by omega
   have wi : IntKind.i64.wrap ((i : Int) + 1) = ((i + 1 : Nat) : Int) := by rw [IntKind.wrap_i64]; omega
   have HLT := hid hlt
   clear bV z1 hm hc V1 F1 RR BW UV KX BV hi hb
   go_wp2
   go_roundw
   case rel => exact ⟨i + 1, _, HLT.out, by go_num, UX, N1, RX, BX⟩
   case measure => simp [intOf]; omega
  ·obtain rfl : n = i := by omega
   have e1 := (show Fil (cts fs) (fun x => x) (cts fs).length lw from by rw [cts_len, HL.out]; exact F1.out).done
   rw [List.map_id'] at e1
   subst e1
   clear F1
   have HWS := hid (show ∀ x ∈ cts fs, Word x from fun x hx => by
    obtain ⟨y, hy, rfl⟩ := List.mem_map.1 hx
    exact HF.out y hy)
   have C7 := hid (show Calls Tryz.prog 29 #[.slice (some ⟨gw, 0, none⟩) n n] wr fun e w' => e = .returned (.tuple #[.int .u64 (sumV (cts fs)), .int .i64 (sumE (cts fs))]) ∧ w' = wr from by
    have := sum_w n wr HWS.out (by rw [cts_len, HL.out]; omega) V1.out.rw
    rw [cts_len, HL.out] at this
    exact this)
   have HG0 := hid (sumL_nonneg (cts fs) (fun x hx => (HWS.out x hx).1))
   by_cases hS : sumL (cts fs) < 18446744073709551616
   ·rw [show sumV (cts fs) = sumL (cts fs) from if_pos hS, show sumE (cts fs) = 0 from if_pos hS] at C7
    have HSS := hid hS
    obtain ⟨S, hSe⟩ : ∃ S, sumL (cts fs) = S := ⟨_, rfl⟩
    have HSE := hid hSe
    rw [hSe] at C7 HG0 HSS
    clear hS hSe
    have q1 := mn_bd HA.out.1 HB.out.1
    have hA2 := HA.out.2
    obtain ⟨o, ho⟩ : ∃ o, mn A B = o := ⟨_, rfl⟩
    rw [ho] at q1
    have e1 : min A B = o := by rw [mn_min, ho]
    obtain ⟨x, hx⟩ : ∃ x, A - o = x := ⟨_, rfl⟩
    have e2 : IntKind.u64.wrap (A - o) = x := by rw [IntKind.wrap_u64]; omega
    have q2 := mn_bd (show 0 ≤ x by omega) HH.out.1
    obtain ⟨h, hh⟩ : ∃ h, mn x H = h := ⟨_, rfl⟩
    rw [hh] at q2
    have e3 : min x H = h := by rw [mn_min, hh]
    obtain ⟨y, hy⟩ : ∃ y, x - h = y := ⟨_, rfl⟩
    have e4 : IntKind.u64.wrap (x - h) = y := by rw [IntKind.wrap_u64]; omega
    have q3 := mn_bd (show 0 ≤ y by omega) HG0.out
    obtain ⟨z, hz⟩ : ∃ z, mn y S = z := ⟨_, rfl⟩
    rw [hz] at q3
    have e5 : min y S = z := by rw [mn_min, hz]
    obtain ⟨v, hv⟩ : ∃ v, y - z = v := ⟨_, rfl⟩
    have e6 : IntKind.u64.wrap (y - z) = v := by rw [IntKind.wrap_u64]; omega
    have HZW := hid (show Word z from ⟨by omega, by omega⟩)
    have HDF := hid (And.intro ho (And.intro hx (And.intro hh (And.intro hy (And.intro hz hv)))))
    clear q1 hA2 ho hx q2 hh hy q3 hz hv
    obtain ⟨V, hV⟩ : ∃ V, wr.alloc (.cells #[.int .u64 o, .int .u64 h, .slice none 0 0, .int .u64 0] 48) = V := ⟨_, rfl⟩
    have bV := hid (show Below wr.heap.size wr V from by rw [← hV]; exact ball _ _)
    have zV := hid (show V.heap[wr.heap.size]? = some (.cells (cvr o h (.slice none 0 0) 0) 48 (0, 0)) from by rw [← hV]; exact World.alloc_heap_new _ _)
    have HV := hid hV
    obtain ⟨gc, hgc⟩ : ∃ g, wr.heap.size = g := ⟨_, rfl⟩
    have HGC := hid (show w.heap.size ≤ gc ∧ g8 < gc ∧ gw < gc from ⟨by rw [← hgc]; exact BW.out.size, by rw [← hgc]; exact row_lt RR.out, by rw [← hgc]; exact V1.out.lt⟩)
    have BV := hid (btr BW.out bV.out)
    have bVs := hid (show gc < V.heap.size from by rw [← hgc]; exact row_lt zV.out)
    have R8 := hid (row_on RR.out bV.out)
    have C8 := hid (shared_any z (cts fs) n gw V HZW.out HWS.out (by rw [cts_len]; exact HL.out) hn (V1.out.on bV.out) (by rw [HSE.out]; exact HSS.out))
    rw [hgc] at zV
    clear hV bV BW RR V1
    go_upto_region 13 with (go_at_call 29; with_reducible refine C7.out.mono ?_; rintro e w9 ⟨rfl, h1⟩; have h1 := h1.symm; subst h1)
    rw [HV.out]
    clear HV C7
    go_upto_region 14 with (go_at_call 30; with_reducible refine C8.out.mono ?_; rintro e U ⟨g', l, rfl, h1, h2, h3, h4⟩; have LU := hid h1; have UU := hid h2; have SU := hid h3; have BU := hid h4; have zU := hid (row_on zV.out h4); have r8 := hid (row_on R8.out h4); have c2 := row_cell zU.out 2; have c3 := row_cell zU.out 3; have f2 := row_frz zU.out 2; have f3 := row_frz zU.out 3; clear h1 h2 h3 h4)
    have zX := hid (row_set zU.out (cvr_set2 o h 0 (.slice none 0 0) (.slice (some ⟨g', 0, none⟩) n n)))
    have kX := hid (Kp.set U gc 2 (.slice (some ⟨g', 0, none⟩) n n))
    have BX := hid (set_below (i := 2) (v := .slice (some ⟨g', 0, none⟩) n n) (btr BV.out BU.out) HGC.out.1)
    have UX := hid (UU.out.same (kX.out.obj g' UU.out.lt (by have := LU.out; have := bVs.out; omega)))
    have rX := hid ((kX.out.obj g8 (row_lt r8.out) (by have := HGC.out; omega)).trans r8.out)
    obtain ⟨X, hX⟩ : ∃ X, U.setCell ⟨gc, 2, none⟩ (.slice (some ⟨g', 0, none⟩) n n) = X := ⟨_, rfl⟩
    rw [hX] at zX kX BX UX rX ⊢
    have zY := hid (row_set zX.out (cvr_set3 o h 0 v (.slice (some ⟨g', 0, none⟩) n n)))
    have kY := hid (Kp.set X gc 3 (.int .u64 v))
    have BY := hid (set_below (i := 3) (v := .int .u64 v) BX.out HGC.out.1)
    have UY := hid (UX.out.same (kY.out.obj g' UX.out.lt (by have := LU.out; have := bVs.out; omega)))
    have rY := hid ((kY.out.obj g8 (row_lt rX.out) (by have := HGC.out; omega)).trans rX.out)
    have c3 := row_cell zX.out 3
    have f3 := row_frz zX.out 3
    clear hX c2 f2 kX BX UX rX kY BU r8 zU R8 BV UU
    go_upto_region 15 with fail
    obtain ⟨Y, hY⟩ : ∃ Y, X.setCell ⟨gc, 3, none⟩ (.int .u64 v) = Y := ⟨_, rfl⟩
    rw [hY] at zY BY UY rY ⊢
    have d0 : Y.cell? ⟨gc, 0, none⟩ = some (.int .u64 o) := row_cell zY.out 0
    have d1 : Y.cell? ⟨gc, 1, none⟩ = some (.int .u64 h) := row_cell zY.out 1
    have d2 : Y.cell? ⟨gc, 2, none⟩ = some (.slice (some ⟨g', 0, none⟩) n n) := row_cell zY.out 2
    have d3 : Y.cell? ⟨gc, 3, none⟩ = some (.int .u64 v) := row_cell zY.out 3
    clear hY c3 f3 zX zY
    go_wp2_with (refine wpList_store_row (by rfl) 48 (.tmp 8) (.tmp 72) (by rfl) g8 #[.int .u64 o, .int .u64 h, .slice (some ⟨g', 0, none⟩) n n, .int .u64 v] (by rfl) (by rfl) 48 _ rY.out (cv_info _ _ _ _) (cv_size _ _ _ _ _ _ _ _) (cv_all _ _ _ _ _ _) ?_)
    refine bodyPost_ret (res_ct Tryz.results13 _ _ g8 48 #[.int .u64 o, .int .u64 h, .slice (some ⟨g', 0, none⟩) n n, .int .u64 v] (0, 0) _ (.int .i64 0) (by rfl) (by rfl) (setRow_heap _ _ _ _ 48 (0, 0) rY.out) Tryz.underlying48 rfl info26) rfl ?_
    have el : l.length = n := by rw [SU.out.len, cts_len, HL.out]
    obtain ⟨ho, hx, hh, hy, hz, hv⟩ := HDF.out
    refine ⟨0, o, h, v, some ⟨g', 0, none⟩, l, by rw [el], .inr ⟨by rw [HSE.out]; exact HSS.out, rfl, ho.symm, by rw [ho, hx, hh], ?_, ?_⟩, .inr ⟨g', rfl, ?_, ?_⟩, setRow_below BY.out (Nat.le_of_eq HG.out.2.1)⟩
    ·rw [ho, hx, hh, hy, HSE.out, hz]; exact SU.out
    ·rw [ho, hx, hh, hy, HSE.out, hz, hv]
    ·have := LU.out; have := bVs.out; have := HGC.out.1; omega
    ·rw [el]
     exact UY.out.same (setRow_other _ _ _ _ (by have := LU.out; have := bVs.out; have := HGC.out; omega))
   ·rw [show sumV (cts fs) = 0 from if_neg hS, show sumE (cts fs) = 10 from if_neg hS] at C7
    have HSS := hid hS
    clear hS
    go_upto_region 9 with (go_at_call 29; with_reducible refine C7.out.mono ?_; rintro e w9 ⟨rfl, h1⟩; have h1 := h1.symm; subst h1)
    go_wp2_with (refine wpList_store_row (by rfl) 48 (.tmp 8) (.tmp 40) (by rfl) g8 #[.int .u64 0, .int .u64 0, .slice none 0 0, .int .u64 0] (by rfl) (by rfl) 48 _ RR.out (cv_info _ _ _ _) (cv_size _ _ _ _ _ _ _ _) (cv_all _ _ _ _ _ _) ?_)
    refine bodyPost_ret (res_ct Tryz.results13 _ _ g8 48 #[.int .u64 0, .int .u64 0, .slice none 0 0, .int .u64 0] (0, 0) _ (.int .i64 10) (by rfl) (by rfl) (setRow_heap _ _ _ _ 48 (0, 0) RR.out) Tryz.underlying48 rfl info26) rfl ?_
    exact ⟨10, 0, 0, 0, none, [], rfl, .inl ⟨Int.not_lt.2 HSS.out, rfl, rfl, rfl, rfl, rfl⟩, .inl ⟨rfl, rfl⟩, setRow_below BW.out (Nat.le_of_eq HG.out.2.1)⟩
end Go.Proofs.YtlhbgaiiehljpaaGreat.Ss
namespace Go.Proofs.YtlhbgaiiehljpaaGreat.MonM
set_option linter.unusedVariables false
def hiW (m : Int) : Int := m / 18446744073709551616 % 18446744073709551616
def loW (m : Int) : Int := m % 18446744073709551616
def Amt (m : Int) : Prop := -170141183460469231731687303715884105727 ≤ m ∧ m ≤ 170141183460469231731687303715884105727
theorem hiW_word (m : Int) : 0 ≤ hiW m ∧ hiW m < 18446744073709551616 := by unfold hiW; omega
theorem loW_word (m : Int) : 0 ≤ loW m ∧ loW m < 18446744073709551616 := by unfold loW; omega
/-- what the words say of an amount (or of -2^127). -/
theorem words (m : Int) (h0 : -170141183460469231731687303715884105728 ≤ m) (h1 : m ≤ 170141183460469231731687303715884105727) :
  (0 ≤ m ∧ m = hiW m * 18446744073709551616 + loW m ∧ hiW m < 9223372036854775808) ∨
  (m < 0 ∧ m + 340282366920938463463374607431768211456 = hiW m * 18446744073709551616 + loW m ∧ 9223372036854775808 ≤ hiW m) := by
 unfold hiW loW; omega
theorem words_zero : hiW 0 = 0 ∧ loW 0 = 0 := ⟨rfl, rfl⟩
/-- adding word by word. -/
theorem add_words (m n : Int) :
  hiW (m + n) = (hiW m + hiW n + (loW m + loW n) / 18446744073709551616) % 18446744073709551616 ∧ loW (m + n) = (loW m + loW n) % 18446744073709551616 := by
 unfold hiW loW; omega
theorem neg_words (m : Int) :
  hiW (-m) = (0 - hiW m - (if 0 < loW m then 1 else 0)) % 18446744073709551616 ∧ loW (-m) = (0 - loW m) % 18446744073709551616 := by
 unfold hiW loW; split <;> omega

/-! the top bit -/
theorem and_pow (x i : Nat) : x &&& 2 ^ i = (x.testBit i).toNat * 2 ^ i := by
 apply Nat.eq_of_testBit_eq
 intro j
 rw [Nat.testBit_and, Nat.testBit_two_pow]
 by_cases h : i = j
 ·subst h
  cases hb : x.testBit i <;> simp
 ·cases hb : x.testBit i <;> simp [h]
theorem and_top (a : Int) (h0 : 0 ≤ a) (h1 : a < 18446744073709551616) : bits .and .u64 a 9223372036854775808 = if 9223372036854775808 ≤ a then 9223372036854775808 else 0 := by
 obtain ⟨x, rfl⟩ := Int.eq_ofNat_of_zero_le h0
 have h := bits_and_u64_nat x 9223372036854775808 (by omega) (by omega)
 have e : x &&& 9223372036854775808 = (x.testBit 63).toNat * 2 ^ 63 := and_pow x 63
 have e2 : x.testBit 63 = decide (9223372036854775808 ≤ x) := by
  rw [Nat.testBit_eq_decide_div_mod_eq]
  congr 1
  have : (x / 2 ^ 63 % 2 = 1) = (9223372036854775808 ≤ x) := by
   apply propext; omega
  exact this
 rw [e, e2] at h
 refine h.trans ?_
 by_cases hx : 9223372036854775808 ≤ x
 ·rw [if_pos (by omega)]; simp [hx]
 ·rw [if_neg (by omega)]; simp [hx]
theorem top_nat (x : Nat) (h : x < 18446744073709551616) : x.testBit 63 = decide (9223372036854775808 ≤ x) := by
 rw [Nat.testBit_eq_decide_div_mod_eq]
 congr 1
 have : (x / 2 ^ 63 % 2 = 1) = (9223372036854775808 ≤ x) := by
  apply propext; omega
 exact this
/-- both other than a third, in the top bit. -/
theorem over_top (a b c : Int) (a0 : 0 ≤ a) (a1 : a < 18446744073709551616) (b0 : 0 ≤ b) (b1 : b < 18446744073709551616) (c0 : 0 ≤ c) (c1 : c < 18446744073709551616) :
  bits .and .u64 (bits .and .u64 (bits .xor .u64 a c) (bits .xor .u64 b c)) 9223372036854775808 =
   if (decide (9223372036854775808 ≤ a) != decide (9223372036854775808 ≤ c)) && (decide (9223372036854775808 ≤ b) != decide (9223372036854775808 ≤ c)) then 9223372036854775808 else 0 := by
 obtain ⟨x, rfl⟩ := Int.eq_ofNat_of_zero_le a0
 obtain ⟨y, rfl⟩ := Int.eq_ofNat_of_zero_le b0
 obtain ⟨z, rfl⟩ := Int.eq_ofNat_of_zero_le c0
 have hx : x ^^^ z < 2 ^ 64 := Nat.xor_lt_two_pow (by omega) (by omega)
 have hy : y ^^^ z < 2 ^ 64 := Nat.xor_lt_two_pow (by omega) (by omega)
 have hxy : (x ^^^ z) &&& (y ^^^ z) < 2 ^ 64 := Nat.and_lt_two_pow _ (by omega)
 rw [bits_xor_u64_nat x z (by omega) (by omega), bits_xor_u64_nat y z (by omega) (by omega), bits_and_u64_nat _ _ (by omega) (by omega)]
 have h := bits_and_u64_nat ((x ^^^ z) &&& (y ^^^ z)) 9223372036854775808 (by omega) (by omega)
 refine h.trans ?_
 have e : ((x ^^^ z) &&& (y ^^^ z)) &&& 9223372036854775808 = (((x ^^^ z) &&& (y ^^^ z)).testBit 63).toNat * 2 ^ 63 := and_pow _ 63
 rw [e, Nat.testBit_and, Nat.testBit_xor, Nat.testBit_xor, top_nat x (by omega), top_nat y (by omega), top_nat z (by omega)]
 have i1 : decide ((9223372036854775808 : Int) ≤ (x : Int)) = decide (9223372036854775808 ≤ x) := by congr 1; apply propext; omega
 have i2 : decide ((9223372036854775808 : Int) ≤ (y : Int)) = decide (9223372036854775808 ≤ y) := by congr 1; apply propext; omega
 have i3 : decide ((9223372036854775808 : Int) ≤ (z : Int)) = decide (9223372036854775808 ≤ z) := by congr 1; apply propext; omega
 rw [i1, i2, i3]
 cases decide (9223372036854775808 ≤ x) <;> cases decide (9223372036854775808 ≤ y) <;> cases decide (9223372036854775808 ≤ z) <;> rfl
end Go.Proofs.YtlhbgaiiehljpaaGreat.MonM
namespace Go.Proofs.YtlhbgaiiehljpaaGreat
open Go.RowKit MonM
set_option linter.unusedVariables false
/-- an amount as a value. -/
abbrev mv (m : Int) : Value := .agg #[.int .u64 (hiW m), .int .u64 (loW m)]
def sgn (m : Int) : Int := if m < 0 then -1 else if 0 < m then 1 else 0
def bor (x y : Int) : Int := if x < y then 1 else 0
theorem sub64 (x y b : Int) (hx : 0 ≤ x) (hy : 0 ≤ y) (hy' : y < 18446744073709551616) (hb0 : 0 ≤ b) (hb : b ≤ 1) (w : World) : (callFunc 68 #[.int .u64 x, .int .u64 y, .int .u64 b]).run Tryz.prog w =
  .ok (.value (.tuple #[.int .u64 ((x - y - b) % 18446744073709551616), .int .u64 (if x < y + b then 1 else 0)])) w := by
 obtain ⟨x, rfl⟩ := Int.eq_ofNat_of_zero_le hx
 obtain ⟨y, rfl⟩ := Int.eq_ofNat_of_zero_le hy
 obtain ⟨b, rfl⟩ := Int.eq_ofNat_of_zero_le hb0
 have e1 : (((x + 18446744073709551616 - y - b) % 18446744073709551616 : Nat) : Int) = ((x : Int) - y - b) % 18446744073709551616 := by omega
 have e2 : ((if x < y + b then 1 else 0 : Nat) : Int) = if (x : Int) < y + b then 1 else 0 := by split <;> split <;> omega
 rw [← e1, ← e2, run_callFunc_extern Tryz.func68 (by kernel_rfl) (by kernel_rfl) (by kernel_rfl) (e := sub64Entry) (by kernel_rfl), run_sub64 x y b (by omega)]
 rfl
theorem sub64_0 (x y : Int) (hx : 0 ≤ x) (hy : 0 ≤ y) (hy' : y < 18446744073709551616) (w : World) : (callFunc 68 #[.int .u64 x, .int .u64 y, .int .u64 0]).run Tryz.prog w =
  .ok (.value (.tuple #[.int .u64 ((x - y) % 18446744073709551616), .int .u64 (bor x y)])) w := by
 have h := sub64 x y 0 hx hy hy' (Int.le_refl 0) (by decide) w
 rw [show x - y - 0 = x - y from by omega, show y + 0 = y from by omega] at h
 exact h
set_option maxHeartbeats 400000 in
theorem cents_any (n : Int) (w : World) (h0 : -9223372036854775808 ≤ n) (h1 : n ≤ 9223372036854775807) :
  Calls Tryz.prog 8 #[.int .i64 n] w fun e w' => e = .returned (mv n) ∧ Below w.heap.size w w' := by
 have e1 : IntKind.u64.wrap (n / 9223372036854775808) = hiW n := by rw [IntKind.wrap_u64]; unfold hiW; omega
 have e2 : IntKind.u64.wrap n = loW n := by rw [IntKind.wrap_u64]; rfl
 have E1 := hid e1
 have E2 := hid e2
 clear e1 e2
 go_enter Tryz.func8, Tryz.ntmps8
 go_wp2
 rw [E1.out, E2.out]
 exact bodyPost_ret (v := mv n) (by simp [results, Tryz.results8, go_sem]) rfl ⟨rfl, (Below.refl _ _).alloc (Nat.le_refl _) _⟩
set_option maxHeartbeats 400000 in
theorem none_yes (w : World) :
  Calls Tryz.prog 56 #[.agg #[.int .u64 9223372036854775808, .int .u64 0]] w fun e w' => e = .returned (.bool true) ∧ Below w.heap.size w w' := by
 go_enter Tryz.func56, Tryz.ntmps56
 go_wp2
 go_ret
 exact ⟨rfl, (Below.refl _ _).alloc (Nat.le_refl _) _⟩
set_option maxHeartbeats 400000 in
theorem none_no (H L : Int) (w : World) (h : ¬ (H = 9223372036854775808 ∧ L = 0)) :
  Calls Tryz.prog 56 #[.agg #[.int .u64 H, .int .u64 L]] w fun e w' => e = .returned (.bool false) ∧ Below w.heap.size w w' := by
 by_cases h1 : H = 9223372036854775808
 ·have h2 : ¬ L = 0 := fun e => h ⟨h1, e⟩
  clear h
  subst h1
  go_enter Tryz.func56, Tryz.ntmps56
  go_wp2
  go_ret
  exact ⟨rfl, (Below.refl _ _).alloc (Nat.le_refl _) _⟩
 ·clear h
  go_enter Tryz.func56, Tryz.ntmps56
  go_wp2
  go_ret
  exact ⟨rfl, (Below.refl _ _).alloc (Nat.le_refl _) _⟩
set_option maxHeartbeats 400000 in
theorem words_any (H L : Int) (w : World) :
  Calls Tryz.prog 113 #[.agg #[.int .u64 H, .int .u64 L]] w fun e w' => e = .returned (.agg #[.int .u64 H, .int .u64 L]) ∧ Below w.heap.size w w' := by
 go_enter Tryz.func113, Tryz.ntmps113
 go_wp2
 exact bodyPost_ret (v := .agg #[.int .u64 H, .int .u64 L]) (by simp [results, Tryz.results113, go_sem]) rfl ⟨rfl, ((Below.refl _ _).alloc (Nat.le_refl _) _).alloc (by simp) _⟩
set_option maxHeartbeats 400000 in
theorem sign_any (m : Int) (w : World) (hm : Amt m) :
  Calls Tryz.prog 11 #[mv m] w fun e w' => e = .returned (.int .i64 (sgn m)) ∧ Below w.heap.size w w' := by
 obtain ⟨m0, m1⟩ := hm
 have hw := words m (by omega) m1
 have hh := hiW_word m
 have hl := loW_word m
 have ht := and_top (hiW m) hh.1 hh.2
 unfold mv
 by_cases h0 : m = 0
 ·subst h0
  go_enter Tryz.func11, Tryz.ntmps11
  rw [show hiW 0 = 0 from rfl, show loW 0 = 0 from rfl]
  go_wp2
  go_ret
  exact ⟨rfl, (Below.refl _ _).alloc (Nat.le_refl _) _⟩
 ·by_cases h1 : m < 0
  ·have es : sgn m = -1 := if_pos h1
   rw [es]
   have g1 : ¬ hiW m = 0 := by omega
   rw [if_pos (by omega)] at ht
   generalize hiW m = H at *
   generalize loW m = L at *
   clear es hw hh hl h0 h1 m0 m1
   go_enter Tryz.func11, Tryz.ntmps11
   go_wp2
   go_ret
   exact ⟨rfl, (Below.refl _ _).alloc (Nat.le_refl _) _⟩
  ·have es : sgn m = 1 := by unfold sgn; rw [if_neg h1, if_pos (by omega)]
   rw [es]
   rw [if_neg (by omega)] at ht
   have g1 : ¬ (hiW m = 0 ∧ loW m = 0) := by omega
   generalize hiW m = H at *
   generalize loW m = L at *
   clear es hw hh hl h0 h1 m0 m1
   by_cases g2 : H = 0
   ·have g3 : ¬ L = 0 := fun e => g1 ⟨g2, e⟩
    clear g1
    subst g2
    go_enter Tryz.func11, Tryz.ntmps11
    go_wp2
    go_ret
    exact ⟨rfl, (Below.refl _ _).alloc (Nat.le_refl _) _⟩
   ·clear g1
    go_enter Tryz.func11, Tryz.ntmps11
    go_wp2
    go_ret
    exact ⟨rfl, (Below.refl _ _).alloc (Nat.le_refl _) _⟩
set_option maxHeartbeats 800000 in
theorem neg_any (m : Int) (w : World) :
  Calls Tryz.prog 37 #[mv m] w fun e w' => e = .returned (mv (-m)) ∧ Below w.heap.size w w' := by
 have hn := neg_words m
 obtain ⟨hh0, hh1⟩ := hiW_word m
 obtain ⟨hl0, hl1⟩ := loW_word m
 unfold mv
 have eb : (if 0 < loW m then 1 else 0 : Int) = bor 0 (loW m) := rfl
 rw [eb] at hn
 have b0 : 0 ≤ bor 0 (loW m) := by unfold bor; split <;> decide
 have b1 : bor 0 (loW m) ≤ 1 := by unfold bor; split <;> decide
 have k1 := sub64_0 0 (loW m) (by decide) hl0 hl1
 have k2 := sub64 0 (hiW m) (bor 0 (loW m)) (by decide) hh0 hh1 b0 b1
 rw [← hn.2] at k1
 rw [← hn.1] at k2
 obtain ⟨t, ht⟩ : ∃ t : Int, (if 0 < hiW m + bor 0 (loW m) then 1 else 0 : Int) = t := ⟨_, rfl⟩
 rw [ht] at k2
 have W1 := hiW_word (-m)
 have W2 := loW_word (-m)
 generalize hiW (-m) = H' at *
 generalize loW (-m) = L' at *
 generalize bor 0 (loW m) = b at *
 generalize hiW m = H at *
 generalize loW m = L at *
 clear hn eb ht W1 W2
 go_enter Tryz.func37, Tryz.ntmps37
 go_wp2_with (first | simp only [k1] | simp only [k2])
 exact bodyPost_ret (v := .agg #[.int .u64 H', .int .u64 L']) (by simp [results, Tryz.results37, go_sem]) rfl ⟨rfl, ((Below.refl _ _).alloc (Nat.le_refl _) _).alloc (by simp) _⟩
set_option maxHeartbeats 400000 in
theorem numTimes_any (p q : Int) (w : World) (hp0 : 0 ≤ p) (hp1 : p < 4294967296) (hq : Word q) :
  Calls Tryz.prog 67 #[.int .u32 p, .int .u64 q] w fun e w' => e = .returned (mv (p * q)) ∧ Below w.heap.size w w' := by
 have hp : Word p := ⟨hp0, by omega⟩
 have hm := mul_word p q hp hq
 have e1 : mulH p q = hiW (p * q) := by unfold mulH hiW; omega
 have e2 : mulL p q = loW (p * q) := rfl
 have C := hid (fun w => mul64_any p q w hp hq)
 rw [e1, e2] at C
 clear e1 e2 hm hp hq
 go_enter Tryz.func67, Tryz.ntmps67
 go_wp2_with fail
 refine (C.out _).mono ?_; rintro e w1 ⟨rfl, rfl⟩
 go_wp2
 exact bodyPost_ret (v := mv (p * q)) (by simp [results, Tryz.results67, go_sem]) rfl ⟨rfl, (Below.refl _ _).alloc (Nat.le_refl _) _⟩
end Go.Proofs.YtlhbgaiiehljpaaGreat
