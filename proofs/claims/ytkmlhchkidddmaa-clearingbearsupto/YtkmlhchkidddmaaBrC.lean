/-
  The document's Bear.
-/
import Derived.Test.YtkmlhchkidddmaaBrB
namespace Go.Proofs.Ytkmlhchkidddmaa.Ss
open Go.RowKit Go.Deep BigM
set_option linter.unusedVariables false
set_option linter.unusedSimpArgs false
set_option maxHeartbeats 8000000
set_option maxRecDepth 100000
attribute [local go_sem ↓] Go.wp_at_zero Go.wp_at_succ
theorem row_grown {w w' : World} {r : Option Nat} {e t : TypeId} {g : Nat} {cs : Array Value} (h : w.heap[g]? = some (.cells cs t (0, 0))) (hg : w.grownBy w' r) (he : e ≠ t) (hr : ∀ k, r = some k → ∃ cur, w.heap[k]? = some (.cells cur e (0, 0))) : w'.heap[g]? = some (.cells cs t (0, 0)) := by
  rw [hg.block g (row_lt h) (fun k => by
    obtain ⟨cur, hk⟩ := hr g k.symm
    rw [h] at hk
    injection hk with hk
    injection hk with _ hk
    exact he hk.symm)]
  exact h
theorem ivw_snoc (l : List Int) (x : Int) : ivw l ++ [.int .u64 x] = ivw (l ++ [x]) := by simp [ivw]
/-- a cover with its slice, both new. -/
def CvT (wr : World) (o : Int) (n : Nat) (t : Nat × Nat) (V : World) : Prop := t.1 ≠ t.2 ∧ wr.heap.size ≤ t.1 ∧ wr.heap.size ≤ t.2 ∧ Uw V t.2 n (List.replicate n 0) ∧ V.heap[t.1]? = some (.cells (cvr o 0 (.slice (some ⟨t.2, 0, none⟩) n n) 0) 26 (0, 0)) ∧ Below wr.heap.size wr V
theorem bdrew (w : World) : Below w.heap.size w w.drew := ⟨rfl, rfl, rfl, Nat.le_refl _, fun _ _ => rfl⟩
theorem cvt_a (wr : World) (o : Int) (n : Nat) : CvT wr o n (wr.heap.size + 1, wr.heap.size) (((wr.alloc (.cells (madeCells #[.int .u64 0] n) 22)).alloc (.cells #[.int .u64 o, .int .u64 0, .slice (some ⟨wr.heap.size, 0, none⟩) n n, .int .u64 0] 26)).drew) := by
  have u := uw_made wr n
  have s1 : (wr.alloc (.cells (madeCells #[.int .u64 0] n) 22)).heap.size = wr.heap.size + 1 := by simp
  have bW : Below wr.heap.size wr (wr.alloc (.cells (madeCells #[.int .u64 0] n) 22)) := ball _ _
  generalize wr.alloc (.cells (madeCells #[.int .u64 0] n) 22) = W at u s1 bW ⊢
  refine ⟨by simp, by simp, by simp, ?_, ?_, ?_⟩
  · exact (u.on (ball _ _)).on (bdrew _)
  · rw [heap_drew]
    show (W.alloc _).heap[wr.heap.size + 1]? = _
    rw [← s1]
    exact World.alloc_heap_new _ _
  · exact btr (btr bW (ball _ _)) (bdrew _)
theorem cvt_b (wr : World) (o : Int) (n : Nat) : CvT wr o n (wr.heap.size, wr.heap.size + 1) (((wr.alloc (.cells #[.int .u64 o, .int .u64 0, .slice (some ⟨wr.heap.size + 1, 0, none⟩) n n, .int .u64 0] 26)).alloc (.cells (madeCells #[.int .u64 0] n) 22)).drew) := by
  have r : (wr.alloc (.cells #[.int .u64 o, .int .u64 0, .slice (some ⟨wr.heap.size + 1, 0, none⟩) n n, .int .u64 0] 26)).heap[wr.heap.size]? = some (.cells #[.int .u64 o, .int .u64 0, .slice (some ⟨wr.heap.size + 1, 0, none⟩) n n, .int .u64 0] 26 (0, 0)) := World.alloc_heap_new _ _
  have s1 : (wr.alloc (.cells #[.int .u64 o, .int .u64 0, .slice (some ⟨wr.heap.size + 1, 0, none⟩) n n, .int .u64 0] 26)).heap.size = wr.heap.size + 1 := by simp
  have bW : Below wr.heap.size wr (wr.alloc (.cells #[.int .u64 o, .int .u64 0, .slice (some ⟨wr.heap.size + 1, 0, none⟩) n n, .int .u64 0] 26)) := ball _ _
  generalize wr.alloc (.cells #[.int .u64 o, .int .u64 0, .slice (some ⟨wr.heap.size + 1, 0, none⟩) n n, .int .u64 0] 26) = W at r s1 bW ⊢
  have u := uw_made W n
  rw [s1] at u
  refine ⟨by simp, by simp, by simp, ?_, ?_, ?_⟩
  · exact u.on (bdrew _)
  · exact row_on (row_on r (ball _ _)) (bdrew _)
  · exact btr (btr bW (ball _ _)) (bdrew _)
theorem rq_kp {B : Nat → Prop} {w w' : World} {p : Option Addr} {l : List Int} (h : Rq w p l) (hk : Kp B w w') (hB : ∀ b o, 0 < l.length → p = some ⟨b, o, none⟩ → ¬ B b) : Rq w' p l := fun h0 => by
  obtain ⟨b, o, e, r⟩ := h h0
  exact ⟨b, o, e, rw_kp r hk (hB b o h0 e)⟩
theorem refBear_any (A B H : Int) (fs : List Fd) (n : Nat) (q : Option Addr) (cap : Nat) (w : World) (hA : Word A) (hB : Word B) (hH : Word H) (hf : ∀ x ∈ fs, Word x.ct) (hl : fs.length = n) (hn : n ≤ 1048576) (hr : Fz w q fs) (hk : ∃ er o h l lf, CvR A B H (cts fs) er o h l lf) :
    Calls Try.prog 5 #[.int .u64 A, .int .u64 B, .int .u64 H, .slice q n cap] w fun e w' => ∃ er o h lf p c l, e = .returned (.tuple #[.agg #[.int .u64 o, .int .u64 h, .slice p (l : List Int).length c, .int .u64 lf], .int .i64 er]) ∧ CvR A B H (cts fs) er o h l lf ∧ Rq w' p l ∧ Below w.heap.size w w' := by
  have hmk := make_w n (by omega)
  obtain ⟨W1, hW1⟩ : ∃ W, w.alloc (.cells #[.int .u64 0, .int .u64 0, .slice none 0 0, .int .u64 0] 26) = W := ⟨_, rfl⟩
  have B1 := hid (show Below w.heap.size w W1 from by rw [← hW1]; exact ball _ _)
  have R1 := hid (show W1.heap[w.heap.size]? = some (.cells #[.int .u64 0, .int .u64 0, .slice none 0 0, .int .u64 0] 26 (0, 0)) from by rw [← hW1]; exact World.alloc_heap_new _ _)
  obtain ⟨g8, hg8⟩ : ∃ g, w.heap.size = g := ⟨_, rfl⟩
  have HG := hid hg8
  rw [hg8] at R1
  have HA := hid hA
  have HB := hid hB
  have HH := hid hH
  have HL := hid hl
  have HR := hid hr
  have HWS := hid (show ∀ x ∈ cts fs, Word x from fun x hx => by
    obtain ⟨y, hy, rfl⟩ := List.mem_map.1 hx
    exact hf y hy)
  have HT := hid (fun k => sumL_take_le (cts fs) (fun x hx => (HWS.out x hx).1) k)
  have O1 := hid (own_nil W1 g8 22 1)
  have S0 := hid (show sumL ((cts fs).take 0) < 18446744073709551616 from by simp [sumL])
  have T0 : sumL ((cts fs).take 0) = 0 := rfl
  have HX := hid (show sumL (cts fs) < 18446744073709551616 → ∃ l, Shd (mn (A - mn A B - mn (A - mn A B) H) (sumL (cts fs))) (cts fs) l from fun hs => by
    obtain ⟨_, _, _, l, _, ⟨h0, _⟩ | ⟨_, _, _, _, h5, _⟩⟩ := hk
    · exact absurd hs h0
    · exact ⟨l, h5⟩)
  clear hA hB hH hf hl hr hk
  go_enter Try.func5, Try.ntmps5
  go_upto_region 4 with fail
  go_loopw [10, 11, 12] (fun sv wv iv wr => ∃ i, i ≤ n ∧ iv = .int .i64 (i : Nat) ∧ sv = .int .u64 (sumL ((cts fs).take i)) ∧ Hid (sumL ((cts fs).take i) < 18446744073709551616) ∧ Hid (wr.ownsRow g8 22 1 wv i (ivw ((cts fs).take i))) ∧ Hid (wr.heap[g8]? = some (.cells #[.int .u64 0, .int .u64 0, .slice none 0 0, .int .u64 0] 26 (0, 0))) ∧ Hid (Below w.heap.size w wr)) (fun _ _ iv _ => n - (intOf iv).toNat)
  case atStart => exact ⟨0, Nat.zero_le _, rfl, by rw [T0], S0, O1, R1, B1⟩
  case round =>
    obtain ⟨i, hin, rfl, rfl, SL, OW, RR, BW⟩ := hrel
    clear B1 R1 O1 S0 T0
    obtain ⟨p0, d0, rfl⟩ := own_form OW.out
    by_cases hlt : i < n
    · have hi : i < fs.length := by rw [HL.out]; exact hlt
      obtain ⟨b, off, rfl, hb, k1, k2⟩ := (HR.out.on BW.out) i hi
      have HCB := hid hb
      have hst := sumL_take_gd (ws := cts fs) (i := i) (by rw [cts_len]; exact hi) (fun x => x)
      simp only [List.map_id'] at hst
      have htk : (cts fs).take (i + 1) = (cts fs).take i ++ [(fs[i]'hi).ct] := by
        rw [List.take_succ_eq_append_getElem (by rw [cts_len]; exact hi)]
        simp [cts]
      rw [cts_gd hi] at hst
      have wc := HWS.out _ (gd_mem (show i < (cts fs).length by rw [cts_len]; exact hi))
      rw [cts_gd hi] at wc
      obtain ⟨m, hm⟩ : ∃ m, (fs[i]'hi).mb = m := ⟨_, rfl⟩
      obtain ⟨c, hc⟩ : ∃ m, (fs[i]'hi).ct = m := ⟨_, rfl⟩
      rw [hm] at k1
      rw [hc] at k2 hst wc htk
      have ht0 := HT.out i
      have ht1 := HT.out (i + 1)
      obtain ⟨s, hs⟩ : ∃ s, sumL ((cts fs).take i) = s := ⟨_, rfl⟩
      rw [hs] at hst SL ht0 ⊢
      rw [hst] at ht1
      have CA := hid (fun U => refAdd_any s c U ⟨ht0.1, SL.out⟩ wc)
      have i0 : (0 : Int) ≤ (i : Int) := by omega
      have i1 : (i : Int) < (n : Int) := by omega
      have wi : IntKind.i64.wrap ((i : Int) + 1) = ((i + 1 : Nat) : Int) := by rw [IntKind.wrap_i64]; omega
      have HLT := hid hlt
      have HK2 := hid k2
      have HTK := hid htk
      have HST := hid hst
      have HT1 := hid ht1
      clear hm hc hi hs ht0 ht1 wc hst htk hb
      by_cases hov : s + c < 18446744073709551616
      · rw [show wordV (s + c) = s + c from if_pos hov, show wordE (s + c) = 0 from if_pos hov] at CA
        have HOV := hid hov
        clear hov
        go_upto_region 10 with (go_at_call 9; with_reducible refine (CA.out _).mono ?_; rintro e U ⟨rfl, h1⟩; have BU := hid h1; clear h1)
        have OU := hid (own_on OW.out BU.out)
        have RU := hid (row_on RR.out BU.out)
        have BWU := hid (btr BW.out BU.out)
        have k3 : U.cell? ⟨b, off + i * 2 + 1, none⟩ = some (.int .u64 c) := (BU.out.cell (p := ⟨b, off + i * 2 + 1, none⟩) HCB.out).trans HK2.out
        obtain ⟨W, hW⟩ : ∃ W, U.alloc (.cells #[.int .u64 c] 22) = W := ⟨_, rfl⟩
        have AW := hid (show Below U.heap.size U W from by rw [← hW]; exact ball _ _)
        have RW := hid (rd_one (w := U) (.int .u64 c) 22)
        rw [hW] at RW
        have OX := hid (own_on OU.out AW.out)
        have RX := hid (row_on RU.out AW.out)
        have BX := hid (btr BWU.out AW.out)
        have SX := hid (show g8 ≤ W.heap.size from by have := BX.out.size; have := HG.out; omega)
        clear OU RU BWU AW OW RR BW CA k1 k2
        go_wp2_with (at_builtin; refine wpList_app_rd (by rfl) (.tmp 39) (.tmp 45) 24 22 _ 1 8 (by rfl) Try.underlying24 infoW rfl (by decide) g8 _ i (ivw ((cts fs).take i)) (by rfl) OX.out (some ⟨U.heap.size, 0, none⟩) 1 1 [.int .u64 c] (by rfl) (fun e => by cases e) rfl RW.out (fun u hu => by simp at hu; subst hu; rfl) (by unfold maxLen; omega) (by omega) SX.out ?_; intro v' w' hown hgrow; have O2 := hid hown; have G2 := hid hgrow; clear hown hgrow)
        have R2 := hid (row_grown RX.out G2.out (show (22 : TypeId) ≠ 26 by decide) (fun k e => own_ty OX.out e))
        have B2 := hid (show Below w.heap.size w w' from BX.out.grown G2.out BX.out.size (fun j hj => by have := own_ge OX.out j hj; have := HG.out; omega))
        have O3 := hid (show w'.ownsRow g8 22 1 v' (i + 1) (ivw ((cts fs).take (i + 1))) from by rw [HTK.out, ← ivw_snoc]; exact O2.out)
        go_roundw
        case rel => exact ⟨i + 1, HLT.out, by go_num, by rw [HST.out], hid (by rw [HST.out]; exact HOV.out), O3, R2, B2⟩
        case measure => have := HLT.out; simp [intOf]; omega
      · rw [show wordV (s + c) = 0 from if_neg hov, show wordE (s + c) = 10 from if_neg hov] at CA
        have HOV := hid (show ¬ sumL (cts fs) < 18446744073709551616 from by have := HT1.out; omega)
        clear hov
        go_upto_region 8 with (go_at_call 9; with_reducible refine (CA.out _).mono ?_; rintro e U ⟨rfl, h1⟩; have BU := hid h1; clear h1)
        have RU := hid (row_on RR.out BU.out)
        have BWU := hid (btr BW.out BU.out)
        clear RR BW BU CA
        go_wp2_with (refine wpList_store_row (by rfl) 26 (.tmp 8) (.tmp 36) (by rfl) g8 #[.int .u64 0, .int .u64 0, .slice none 0 0, .int .u64 0] (by rfl) (by rfl) 26 _ RU.out (cv_info _ _ _ _) (cv_size _ _ _ _ _ _ _ _) (cv_all _ _ _ _ _ _) ?_)
        refine bodyPost_ret (res_ct Try.results5 _ _ g8 26 #[.int .u64 0, .int .u64 0, .slice none 0 0, .int .u64 0] (0, 0) _ (.int .i64 10) (by rfl) (by rfl) (setRow_heap _ _ _ _ 26 (0, 0) RU.out) Try.underlying26 rfl info26) rfl ?_
        exact ⟨10, 0, 0, 0, none, 0, [], rfl, .inl ⟨Int.not_lt.2 HOV.out, rfl, rfl, rfl, rfl, rfl⟩, fun h => by simp at h, setRow_below BWU.out (Nat.le_of_eq HG.out)⟩
    · obtain rfl : n = i := by omega
      rw [List.take_of_length_le (by rw [cts_len, HL.out]; exact Nat.le_refl _)] at SL OW ⊢
      have HG0 := hid (sumL_nonneg (cts fs) (fun x hx => (HWS.out x hx).1))
      have HSL := hid SL.out
      obtain ⟨S, hSe⟩ : ∃ S, sumL (cts fs) = S := ⟨_, rfl⟩
      have HSE := hid hSe
      rw [hSe] at HG0 HSL ⊢
      clear SL hSe
      have q1 := mn_bd HA.out.1 HB.out.1
      have hA2 := HA.out.2
      have L1 := hid (fun U => lesser_any A B U)
      obtain ⟨o, ho⟩ : ∃ o, mn A B = o := ⟨_, rfl⟩
      rw [ho] at q1 L1
      obtain ⟨x, hx⟩ : ∃ x, A - o = x := ⟨_, rfl⟩
      have e2 : IntKind.u64.wrap (A - o) = x := by rw [IntKind.wrap_u64]; omega
      have q2 := mn_bd (show 0 ≤ x by omega) HH.out.1
      have L2 := hid (fun U => lesser_any x H U)
      obtain ⟨h, hh⟩ : ∃ h, mn x H = h := ⟨_, rfl⟩
      rw [hh] at q2 L2
      obtain ⟨y, hy⟩ : ∃ y, x - h = y := ⟨_, rfl⟩
      have e4 : IntKind.u64.wrap (x - h) = y := by rw [IntKind.wrap_u64]; omega
      have q3 := mn_bd (show 0 ≤ y by omega) HG0.out
      have L3 := hid (fun U => lesser_any y S U)
      obtain ⟨z, hz⟩ : ∃ z, mn y S = z := ⟨_, rfl⟩
      rw [hz] at q3 L3
      obtain ⟨v, hv⟩ : ∃ v, y - z = v := ⟨_, rfl⟩
      have e6 : IntKind.u64.wrap (y - z) = v := by rw [IntKind.wrap_u64]; omega
      have HZW := hid (show Word z from ⟨by omega, by omega⟩)
      have HDF := hid (And.intro ho (And.intro hx (And.intro hh (And.intro hy (And.intro hz hv)))))
      clear q1 hA2 ho hx q2 hh hy q3 hz hv
      go_upto_region 11 with fail
      refine reg_cut (X := Nat × Nat) (fun a t => ((((((((a.put (some 47) (.int .u64 A)).put (some 48) (.int .u64 B)).put (some 49) (.int .u64 o)).put (some 50) (.slice q n cap)).put (some 51) (.int .i64 (n : Nat))).put (some 52) (.slice (some ⟨t.2, 0, none⟩) n n)).put (some 53) (.agg #[.int .u64 o, .int .u64 0, .slice (some ⟨t.2, 0, none⟩) n n, .int .u64 0])).put (some 15) (.pointer (some ⟨t.1, 0, none⟩)))) (CvT wr o n) ?_ ?_
      · go_region_with (go_at_call 10; with_reducible refine (L1.out _).mono ?_; rintro e U ⟨rfl, h1⟩; have h1 := h1.symm; subst h1)
        all_goals first
          | exact ⟨(wr.heap.size + 1, wr.heap.size), by kernel_rfl, cvt_a wr o n⟩
          | exact ⟨(wr.heap.size, wr.heap.size + 1), by kernel_rfl, cvt_b wr o n⟩
      · intro t V hT
        obtain ⟨gc, gm⟩ := t
        obtain ⟨t1, t2, t3, t4, t5, t6⟩ := hT
        have HN1 := hid t1
        have HN2 := hid t2
        have HN3 := hid t3
        have UV := hid t4
        have zV := hid t5
        have BV := hid (btr BW.out t6)
        have OV := hid (own_on OW.out t6)
        have RV := hid (row_on RR.out t6)
        have HSZ := hid (show w.heap.size ≤ wr.heap.size from BW.out.size)
        have H8 := hid (row_lt RR.out)
        have HFV := hid t6
        have c0 := row_cell zV.out 0
        have c1 := row_cell zV.out 1
        have f1 := row_frz zV.out 1
        dsimp only [cvr] at c0 c1
        simp only [List.getElem?_toArray, List.getElem?_cons_succ, List.getElem?_cons_zero] at c0 c1
        clear t1 t2 t3 t4 t5 t6 RR BW OW
        dsimp only [Act.put]
        go_upto_region 14 with (go_at_call 10; with_reducible refine (L2.out _).mono ?_; rintro e U ⟨rfl, h1⟩; have h1 := h1.symm; subst h1)
        have zX := hid (row_set zV.out (cvr_set1 o 0 0 h (.slice (some ⟨gm, 0, none⟩) n n)))
        have kX := hid (Kp.set V gc 1 (.int .u64 h))
        have BX := hid (set_below (i := 1) (v := .int .u64 h) BV.out (Nat.le_trans HSZ.out HN2.out))
        have UX := hid (UV.out.same (kX.out.obj gm UV.out.lt (fun e => HN1.out e.symm)))
        have OX := hid (own_same OV.out (fun g hg => kX.out.obj g (by obtain ⟨c, e⟩ := own_ty OV.out hg; exact row_lt e) (fun e => by
          obtain ⟨c, e2⟩ := own_ty OV.out hg
          rw [e] at e2
          rw [zV.out] at e2
          injection e2 with e2
          injection e2 with _ e2
          cases e2)))
        have rX := hid ((kX.out.obj g8 (row_lt RV.out) (by have := H8.out; have := HN2.out; omega)).trans RV.out)
        obtain ⟨X, hX⟩ : ∃ X, V.setCell ⟨gc, 1, none⟩ (.int .u64 h) = X := ⟨_, rfl⟩
        rw [hX] at zX kX BX UX OX rX ⊢
        have c1 : X.cell? ⟨gc, 1, none⟩ = some (.int .u64 h) := row_cell zX.out 1
        clear hX c0 f1 kX BV UV OV RV zV HFV
        go_upto_region 16 with (go_at_call 10; with_reducible refine (L3.out _).mono ?_; rintro e U ⟨rfl, h1⟩; have h1 := h1.symm; subst h1)
        clear L1 L2 L3 c1 hmk
        have e9 := HDF.out
        have HZQ := hid (show mn (A - mn A B - mn (A - mn A B) H) (sumL (cts fs)) = z from by obtain ⟨ho, hx, hh, hy, hz, hv⟩ := HDF.out; rw [ho, hx, hh, hy, HSE.out, hz])
        clear e9
        by_cases hS0 : 0 < S
        · have g0 : decide (0 < S) = true := decide_eq_true hS0
          have HS0 := hid hS0
          clear hS0
          obtain ⟨l, hl⟩ := HX.out (by rw [HSE.out]; exact HSL.out)
          rw [HZQ.out] at hl
          have SH := hid hl
          have SR := hid (show ShR z (cts fs) 0 l from by
            rcases hl with ⟨_, h⟩ | ⟨h0, _⟩
            · exact h
            · have := HS0.out; rw [HSE.out] at h0; omega)
          have C11 := hid (refShare_all z (cts fs) n p0 d0 X HZW.out HWS.out (by rw [cts_len, HL.out]) (by rw [cts_len, HL.out]; exact hn) (fun h0 => by
            obtain ⟨g, e, _, r⟩ := own_rw (l := cts fs) (by rw [cts_len, HL.out]) (by rw [cts_len, HL.out] at h0; exact h0) OX.out
            exact ⟨g, 0, e, r⟩) 0 l SR.out)
          have ell := hid (show l.length = n from by rw [SR.out.len0, cts_len, HL.out])
          rw [ell.out] at C11
          clear hl
          go_upto_region 18 with (go_at_call 11; with_reducible refine C11.out.mono ?_; rintro e U ⟨p, c, rfl, h1, h2⟩; have PU := hid h1; have BU := hid h2; have zU := hid (row_on zX.out h2); have rU := hid (row_on rX.out h2); have c2 := row_cell zU.out 2; have f2 := row_frz zU.out 2; clear h1 h2)
          have zY := hid (row_set zU.out (cvr_set2 o h 0 (.slice (some ⟨gm, 0, none⟩) n n) (.slice p n c)))
          have kY := hid (Kp.set U gc 2 (.slice p n c))
          have BY := hid (set_below (i := 2) (v := .slice p n c) (btr BX.out BU.out) (Nat.le_trans HSZ.out HN2.out))
          have PY := hid (show Rq (U.setCell ⟨gc, 2, none⟩ (.slice p n c)) p l from fun h0 => by
            obtain ⟨g, e, h5, r⟩ := PU.out (by rw [ell.out] at h0; exact h0)
            exact ⟨g, 0, e, rw_kp r kY.out (fun e => by have := row_lt zX.out; omega)⟩)
          have rY := hid ((kY.out.obj g8 (row_lt rU.out) (by have := H8.out; have := HN2.out; omega)).trans rU.out)
          have HPG := hid (show ∀ g off, 0 < n → p = some ⟨g, off, none⟩ → g ≠ gc from fun g off h0 e => by
            obtain ⟨g', e', h5, r⟩ := PU.out h0
            rw [e'] at e
            injection e with e
            injection e with e _
            have := row_lt zX.out
            omega)
          obtain ⟨Y, hY⟩ : ∃ Y, U.setCell ⟨gc, 2, none⟩ (.slice p n c) = Y := ⟨_, rfl⟩
          rw [hY] at zY kY BY PY rY ⊢
          have c3 := row_cell zY.out 3
          have f3 := row_frz zY.out 3
          have HP8 := hid (show ∀ g off, 0 < n → p = some ⟨g, off, none⟩ → g ≠ g8 from fun g off h0 e => by
            obtain ⟨g', e', h5, r⟩ := PU.out h0
            rw [e'] at e
            injection e with e
            injection e with e _
            have := row_lt rX.out
            omega)
          clear hY c2 f2 zU rU BU C11 OX UX zX rX PU kY
          have zZ := hid (row_set zY.out (cvr_set3 o h 0 v (.slice p n c)))
          have kZ := hid (Kp.set Y gc 3 (.int .u64 v))
          have BZ := hid (set_below (i := 3) (v := .int .u64 v) BY.out (Nat.le_trans HSZ.out HN2.out))
          have PZ := hid (show Rq (Y.setCell ⟨gc, 3, none⟩ (.int .u64 v)) p l from fun h0 => by
            obtain ⟨b0, o0, e0, r0⟩ := PY.out h0
            exact ⟨b0, o0, e0, rw_kp r0 kZ.out (HPG.out b0 o0 (by rw [ell.out] at h0; exact h0) e0)⟩)
          have rZ := hid ((kZ.out.obj g8 (row_lt rY.out) (by have := H8.out; have := HN2.out; omega)).trans rY.out)
          go_upto_region 19 with fail
          obtain ⟨Z, hZ⟩ : ∃ Z, Y.setCell ⟨gc, 3, none⟩ (.int .u64 v) = Z := ⟨_, rfl⟩
          rw [hZ] at zZ BZ PZ rZ ⊢
          have y0 : Z.cell? ⟨gc, 0, none⟩ = some (.int .u64 o) := row_cell zZ.out 0
          have y1 : Z.cell? ⟨gc, 1, none⟩ = some (.int .u64 h) := row_cell zZ.out 1
          have y2 : Z.cell? ⟨gc, 2, none⟩ = some (.slice p n c) := row_cell zZ.out 2
          have y3 : Z.cell? ⟨gc, 3, none⟩ = some (.int .u64 v) := row_cell zZ.out 3
          clear hZ c3 f3 zY zZ kZ
          go_wp2_with (refine wpList_store_row (by rfl) 26 (.tmp 8) (.tmp 82) (by rfl) g8 #[.int .u64 o, .int .u64 h, .slice p n c, .int .u64 v] (by rfl) (by rfl) 26 _ rZ.out (cv_info _ _ _ _) (cv_size _ _ _ _ _ _ _ _) (cv_all _ _ _ _ _ _) ?_)
          refine bodyPost_ret (res_ct Try.results5 _ _ g8 26 #[.int .u64 o, .int .u64 h, .slice p n c, .int .u64 v] (0, 0) _ (.int .i64 0) (by rfl) (by rfl) (setRow_heap _ _ _ _ 26 (0, 0) rZ.out) Try.underlying26 rfl info26) rfl ?_
          obtain ⟨ho, hx, hh, hy, hz, hv⟩ := HDF.out
          refine ⟨0, o, h, v, p, c, l, by rw [ell.out], .inr ⟨by rw [HSE.out]; exact HSL.out, rfl, ho.symm, by rw [ho, hx, hh], ?_, ?_⟩, ?_, setRow_below BZ.out (Nat.le_of_eq HG.out)⟩
          · rw [HZQ.out]; exact SH.out
          · rw [ho, hx, hh, hy, HSE.out, hz, hv]
          · exact rq_kp PZ.out (setRow_kp Z g8 _) (fun b0 o0 h0 e0 => by have := HP8.out b0 o0 (by rw [ell.out] at h0; exact h0) e0; exact this)
        · have g0 : decide (0 < S) = false := decide_eq_false hS0
          have ell := hid (show (List.replicate n (0 : Int)).length = n from by simp)
          have SH := hid (show Shd z (cts fs) (List.replicate n 0) from .inr ⟨by have := HG0.out; rw [HSE.out]; omega, by rw [cts_len, HL.out]⟩)
          clear hS0
          go_upto_region 18 with fail
          have c3 := row_cell zX.out 3
          have f3 := row_frz zX.out 3
          have zZ := hid (row_set zX.out (cvr_set3 o h 0 v (.slice (some ⟨gm, 0, none⟩) n n)))
          have kZ := hid (Kp.set X gc 3 (.int .u64 v))
          have BZ := hid (set_below (i := 3) (v := .int .u64 v) BX.out (Nat.le_trans HSZ.out HN2.out))
          have PZ := hid (show Rq (X.setCell ⟨gc, 3, none⟩ (.int .u64 v)) (some ⟨gm, 0, none⟩) (List.replicate n 0) from fun h0 => by
            exact ⟨gm, 0, rfl, rw_kp UX.out.rw kZ.out (fun e => HN1.out e.symm)⟩)
          have rZ := hid ((kZ.out.obj g8 (row_lt rX.out) (by have := H8.out; have := HN2.out; omega)).trans rX.out)
          go_upto_region 19 with fail
          obtain ⟨Z, hZ⟩ : ∃ Z, X.setCell ⟨gc, 3, none⟩ (.int .u64 v) = Z := ⟨_, rfl⟩
          rw [hZ] at zZ BZ PZ rZ ⊢
          have y0 : Z.cell? ⟨gc, 0, none⟩ = some (.int .u64 o) := row_cell zZ.out 0
          have y1 : Z.cell? ⟨gc, 1, none⟩ = some (.int .u64 h) := row_cell zZ.out 1
          have y2 : Z.cell? ⟨gc, 2, none⟩ = some (.slice (some ⟨gm, 0, none⟩) n n) := row_cell zZ.out 2
          have y3 : Z.cell? ⟨gc, 3, none⟩ = some (.int .u64 v) := row_cell zZ.out 3
          clear hZ c3 f3 zX zZ kZ
          go_wp2_with (refine wpList_store_row (by rfl) 26 (.tmp 8) (.tmp 82) (by rfl) g8 #[.int .u64 o, .int .u64 h, .slice (some ⟨gm, 0, none⟩) n n, .int .u64 v] (by rfl) (by rfl) 26 _ rZ.out (cv_info _ _ _ _) (cv_size _ _ _ _ _ _ _ _) (cv_all _ _ _ _ _ _) ?_)
          refine bodyPost_ret (res_ct Try.results5 _ _ g8 26 #[.int .u64 o, .int .u64 h, .slice (some ⟨gm, 0, none⟩) n n, .int .u64 v] (0, 0) _ (.int .i64 0) (by rfl) (by rfl) (setRow_heap _ _ _ _ 26 (0, 0) rZ.out) Try.underlying26 rfl info26) rfl ?_
          obtain ⟨ho, hx, hh, hy, hz, hv⟩ := HDF.out
          refine ⟨0, o, h, v, (some ⟨gm, 0, none⟩), n, (List.replicate n 0), by rw [ell.out], .inr ⟨by rw [HSE.out]; exact HSL.out, rfl, ho.symm, by rw [ho, hx, hh], ?_, ?_⟩, ?_, setRow_below BZ.out (Nat.le_of_eq HG.out)⟩
          · rw [HZQ.out]; exact SH.out
          · rw [ho, hx, hh, hy, HSE.out, hz, hv]
          · exact rq_kp PZ.out (setRow_kp Z g8 _) (fun b0 o0 h0 e0 => by injection e0 with e0; injection e0 with e0 _; have := H8.out; have := HN3.out; omega)
end Go.Proofs.Ytkmlhchkidddmaa.Ss
