/-
  Contracts and plain facts, part 7.
-/
import Derived.Test.YtacdjioieclggaaDoorZf
namespace Go.Proofs.YtacdjioieclggaaDoor.Msg
open Go.RowKit Go.Deep Go.Lib
set_option linter.unusedVariables false
set_option linter.unusedSimpArgs false
theorem l_inj {x y : Inp} (h : x.l = y.l) : x = y := by
  obtain ⟨a0, a1, a2, a3, a4, a5, a6, a7, a8, a9, a10⟩ := x
  obtain ⟨b0, b1, b2, b3, b4, b5, b6, b7, b8, b9, b10⟩ := y
  simp only [Inp.l, List.cons.injEq, and_true] at h
  obtain ⟨rfl, rfl, rfl, rfl, rfl, rfl, rfl, rfl, rfl, rfl, rfl⟩ := h
  rfl
theorem lE_inj {x y : Evt} (h : x.l = y.l) : x = y := by
  obtain ⟨a0, a1, a2, a3, a4, a5, a6, a7, a8, a9, a10, a11, a12⟩ := x
  obtain ⟨b0, b1, b2, b3, b4, b5, b6, b7, b8, b9, b10, b11, b12⟩ := y
  simp only [Evt.l, List.cons.injEq, and_true] at h
  obtain ⟨rfl, rfl, rfl, rfl, rfl, rfl, rfl, rfl, rfl, rfl, rfl, rfl, rfl⟩ := h
  rfl
theorem upd_wd {f : Int → Int} (hf : ∀ t, Wd (f t)) (s : Int) {c : Int} (hc : Wd c) : ∀ t, Wd (upd f s c t) := by
  intro t
  unfold upd
  split
  · exact hc
  · exact hf t

theorem me_wd {x : Int} (h : 0 ≤ x ∧ x < 4294967296) : Wd x := by unfold Wd; omega
theorem FE_wd (x : Evt) (hx : x.Ok) (t : Int) : Wd (x.F t) := by
  obtain ⟨h0, h1, h2, h3, h4, h5, h6⟩ := hx
  unfold Evt.F only
  split
  · unfold Evt.f evF
    exact upd_wd (upd_wd (upd_wd (upd_wd (upd_wd (upd_wd (upd_wd (upd_wd (upd_wd (upd_wd (upd_wd (upd_wd (fun _ => by simp [Wd]) _ h0) _ h1) _ h2) _ h3) _ (me_wd h4)) _ (u64_wd _)) _ (u64_wd _)) _ (u64_wd _)) _ h5) _ h6) _ (u64_wd _)) _ (u64_wd _) t
  · simp [Wd]
theorem only_only (l : List Int) (f : Int → Int) : only l (only l f) = only l f := by
  funext t
  unfold only
  split <;> rfl
theorem kd_inp (x : Inp) (h : x.e = 0) : Kd x.k := Or.inl (k_range x (e_zero x h).1)
theorem kd_evt (x : Evt) (h : x.e = 0) : Kd x.k ∧ 65 ≤ x.k ∧ x.k ≤ 69 ∧ x.k - 64 = x.kd := by
  obtain ⟨h1, h5, hk⟩ := kE_cases x (eE_zero x h).1
  exact ⟨Or.inr (by omega), by omega, by omega, by omega⟩
/-- an input's line. -/
def lnT (x : Inp) : List (Int × List UInt8) := ltL x.k x.F (tagsL x.k)
def lnB (x : Inp) : List UInt8 := if x.e = 0 then lineB (lineK x.k) (lnT x) else []
def lnTE (x : Evt) : List (Int × List UInt8) := ltL x.k x.F (tagsL x.k)
def lnE (x : Evt) : List UInt8 := if x.e = 0 then lineB (lineK x.k) (lnTE x) else []
/-- the input that stands in a line. -/
def rlI (k : Int) (l : List (Int × List UInt8)) : Inp := agnF (nmF l) k (tagsL k)
def rlE (k : Int) (l : List (Int × List UInt8)) : Evt := agnG (nmF l) (k - 64) (tagsL k)
theorem rlI_ok (k : Int) (l : List (Int × List UInt8)) : (rlI k l).Ok ∧ (rlI k l).Rg := agnF_ok _ (nmF_wd l) k _
theorem rlE_ok (k : Int) (l : List (Int × List UInt8)) : (rlE k l).Ok ∧ (rlE k l).Rg := agnG_ok _ (nmF_wd l) _ _
theorem rlI_l (k : Int) (l : List (Int × List UInt8)) (h1 : 1 ≤ k) (h4 : k ≤ 4) : (rlI k l).l = iL k (only (tagsL k) (nmF l)) := agnF_l _ k h1 h4
theorem rlE_l (k : Int) (l : List (Int × List UInt8)) (h1 : 65 ≤ k) (h4 : k ≤ 69) : (rlE k l).l = evL k (only (tagsL k) (nmF l)) := by
  have h := agnG_l (nmF l) (k - 64) (by omega) (by omega)
  rw [show 64 + (k - 64) = k by omega] at h
  exact h
theorem inpV_rl (k : Int) (l : List (Int × List UInt8)) (h1 : 1 ≤ k) (h4 : k ≤ 4) : inpV k (only (tagsL k) (nmF l)) = (rlI k l).v := (iL_iff k _ (rlI k l)).1 (rlI_l k l h1 h4).symm
theorem evtV_rl (k : Int) (l : List (Int × List UInt8)) (h1 : 65 ≤ k) (h4 : k ≤ 69) : evtV k (only (tagsL k) (nmF l)) = (rlE k l).v := (evL_iff k _ (rlE k l)).1 (rlE_l k l h1 h4).symm
/-- what ReadLine says. -/
noncomputable def rlR (b : List UInt8) : Inp × Nat × Int :=
  if (decR b).2.2.2 ≠ 0 then (zeroI, (decR b).2.2.1, (decR b).2.2.2) else
  match inK (decR b).1 with
  | none => (zeroI, 0, 41)
  | some k => if (rlI k (decR b).2.1).e = 0 ∧ lnB (rlI k (decR b).2.1) = b.take (decR b).2.2.1 then (rlI k (decR b).2.1, (decR b).2.2.1, 0) else (zeroI, 0, 40)
noncomputable def reR (b : List UInt8) : Evt × Nat × Int :=
  if (decR b).2.2.2 ≠ 0 then (zeroE, (decR b).2.2.1, (decR b).2.2.2) else
  match evK (decR b).1 (decR b).2.1 with
  | none => (zeroE, 0, 41)
  | some k => if (rlE k (decR b).2.1).e = 0 ∧ lnE (rlE k (decR b).2.1) = b.take (decR b).2.2.1 then (rlE k (decR b).2.1, (decR b).2.2.1, 0) else (zeroE, 0, 40)
theorem enc_inp (x : Inp) (hx : x.Ok) (h : x.e = 0) : encE (lineK x.k) (lnT x) = 0 := enc_line (kd_inp x h) x.F (F_wd x hx)
theorem enc_evt (x : Evt) (hx : x.Ok) (h : x.e = 0) : encE (lineK x.k) (lnTE x) = 0 := enc_line (kd_evt x h).1 x.F (FE_wd x hx)
theorem line_back (x : Inp) (hx : x.Ok) (h : x.e = 0) : rlR (lnB x) = (x, (lnB x).length, 0) := by
  have hb : lnB x = lineB (lineK x.k) (lnT x) := by unfold lnB; rw [if_pos h]
  have hd : decR (lnB x) = (lineK x.k, lnT x, (lnB x).length, 0) := by
    have := decR_line (lineK x.k) (lnT x) [] (enc_inp x hx h)
    rw [List.append_nil] at this
    rw [hb, this]
  obtain ⟨hk1, hk4⟩ := k_range x (e_zero x h).1
  have ht := (e_zero x h).2
  unfold Inp.told at ht
  simp only [Bool.and_eq_true, beq_iff_eq] at ht
  have hr : rlI x.k (lnT x) = x := by
    apply l_inj
    rw [rlI_l _ _ hk1 hk4]
    unfold lnT
    rw [nm_line (kd_inp x h) x.F (F_wd x hx)]
    unfold Inp.F at ht ⊢
    rw [only_only]
    exact ht.2
  unfold rlR
  rw [hd]
  simp only [ne_eq, not_true_eq_false, if_false]
  rw [inK_line hk1 hk4]
  simp only
  rw [hr, List.take_length, if_pos ⟨h, rfl⟩]
theorem lineE_back (x : Evt) (hx : x.Ok) (h : x.e = 0) : reR (lnE x) = (x, (lnE x).length, 0) := by
  have hb : lnE x = lineB (lineK x.k) (lnTE x) := by unfold lnE; rw [if_pos h]
  have hd : decR (lnE x) = (lineK x.k, lnTE x, (lnE x).length, 0) := by
    have := decR_line (lineK x.k) (lnTE x) [] (enc_evt x hx h)
    rw [List.append_nil] at this
    rw [hb, this]
  obtain ⟨hkd, hk1, hk4, hkk⟩ := kd_evt x h
  have ht := (eE_zero x h).2
  unfold Evt.told at ht
  simp only [Bool.and_eq_true, beq_iff_eq] at ht
  have hr : rlE x.k (lnTE x) = x := by
    apply lE_inj
    rw [rlE_l _ _ hk1 hk4]
    unfold lnTE
    rw [nm_line hkd x.F (FE_wd x hx)]
    unfold Evt.F at ht ⊢
    rw [only_only]
    exact ht.2
  unfold reR
  rw [hd]
  simp only [ne_eq, not_true_eq_false, if_false]
  rw [show evK (lineK x.k) (lnTE x) = some x.k from evK_line hk1 hk4 x.F]
  simp only
  rw [hr, List.take_length, if_pos ⟨h, rfl⟩]
theorem rl_ok {b : List UInt8} (h : (rlR b).2.2 = 0) : (decR b).2.2.2 = 0 ∧ inK (decR b).1 ≠ none ∧ (rlR b).1.e = 0 ∧ lnB (rlR b).1 = b.take (rlR b).2.1 ∧ 1 ≤ (rlR b).2.1 ∧ (rlR b).2.1 ≤ b.length ∧ (rlR b).1.Ok := by
  unfold rlR at h ⊢
  by_cases hd : (decR b).2.2.2 = 0
  · rw [if_neg (not_not_intro hd)] at h ⊢
    obtain ⟨k0, m0, n0, e0⟩ : ∃ k m n e, decR b = (k, m, n, e) := ⟨_, _, _, _, rfl⟩
    cases hk : inK (decR b).1 with
    | none => rw [hk] at h; simp at h
    | some k =>
      rw [hk] at h
      simp only at h ⊢
      by_cases hc : (rlI k (decR b).2.1).e = 0 ∧ lnB (rlI k (decR b).2.1) = b.take (decR b).2.2.1
      · rw [if_pos hc]
        have hq : decR b = ((decR b).1, (decR b).2.1, (decR b).2.2.1, 0) := by rw [← hd]
        obtain ⟨b1, b2, _, _⟩ := decR_back hq
        exact ⟨hd, by simp, hc.1, hc.2, b1, b2, (rlI_ok _ _).1⟩
      · rw [if_neg hc] at h; simp at h
  · rw [if_pos hd] at h
    exact absurd h hd
theorem re_ok {b : List UInt8} (h : (reR b).2.2 = 0) : (decR b).2.2.2 = 0 ∧ evK (decR b).1 (decR b).2.1 ≠ none ∧ (reR b).1.e = 0 ∧ lnE (reR b).1 = b.take (reR b).2.1 ∧ 1 ≤ (reR b).2.1 ∧ (reR b).2.1 ≤ b.length ∧ (reR b).1.Ok := by
  unfold reR at h ⊢
  by_cases hd : (decR b).2.2.2 = 0
  · rw [if_neg (not_not_intro hd)] at h ⊢
    cases hk : evK (decR b).1 (decR b).2.1 with
    | none => rw [hk] at h; simp at h
    | some k =>
      rw [hk] at h
      simp only at h ⊢
      by_cases hc : (rlE k (decR b).2.1).e = 0 ∧ lnE (rlE k (decR b).2.1) = b.take (decR b).2.2.1
      · rw [if_pos hc]
        have hq : decR b = ((decR b).1, (decR b).2.1, (decR b).2.2.1, 0) := by rw [← hd]
        obtain ⟨b1, b2, _, _⟩ := decR_back hq
        exact ⟨hd, by simp, hc.1, hc.2, b1, b2, (rlE_ok _ _).1⟩
      · rw [if_neg hc] at h; simp at h
  · rw [if_pos hd] at h
    exact absurd h hd
/-- an input or an event, never both. -/
theorem not_both {b : List UInt8} (h1 : (rlR b).2.2 = 0) (h2 : (reR b).2.2 = 0) : False := by
  have a := (rl_ok h1).2.1
  have c := (re_ok h2).2.1
  cases ha : inK (decR b).1 with
  | none => exact a ha
  | some k =>
    cases hc : evK (decR b).1 (decR b).2.1 with
    | none => exact c hc
    | some m => exact (inK_rg ha).2.2.2 (evK_rg hc).2.2
end Go.Proofs.YtacdjioieclggaaDoor.Msg
namespace Go.Proofs.YtacdjioieclggaaDoor.Msg
open Go.RowKit Go.Maps Go.Deep Go.Lib
set_option linter.unusedVariables false
set_option linter.unusedSimpArgs false
theorem Own.down {B B0 : Nat} {W1 W0 w : World} {v : Value} {l : List UInt8} (h : Own B W0 w v l) (hb : Below B0 W1 W0) (hB : B0 ≤ B) : Own B0 W1 w v l := by
  obtain ⟨⟨h1, h2⟩, h3, h4⟩ := h
  refine ⟨⟨h1, ?_⟩, hb.trans (h3.mono hB), Nat.le_trans hB h4⟩
  rcases h2 with h2 | ⟨g, cap, cur, e, hg, r⟩
  · exact Or.inl h2
  · exact Or.inr ⟨g, cap, cur, e, Nat.le_trans hB hg, r⟩
theorem linekind_any (k : Int) (w : World) : Calls Tryd.prog 53 #[.int .u8 k] w fun e w' => e = .returned (.string ⟨(lineK k).toArray⟩) ∧ w' = w := by
  unfold lineK
  by_cases h1 : k = 1
  · subst h1
    go_enter Tryd.func53, Tryd.ntmps53
    go_wp2
    go_ret
    exact ⟨by simp, rfl⟩
  by_cases h2 : k = 2
  · subst h2
    go_enter Tryd.func53, Tryd.ntmps53
    go_wp2
    go_ret
    exact ⟨by simp, rfl⟩
  by_cases h3 : k = 3
  · subst h3
    go_enter Tryd.func53, Tryd.ntmps53
    go_wp2
    go_ret
    exact ⟨by simp, rfl⟩
  by_cases h4 : k = 4
  · subst h4
    go_enter Tryd.func53, Tryd.ntmps53
    go_wp2
    go_ret
    exact ⟨by simp, rfl⟩
  have g1 : (k == 1) = false := by simpa using h1
  have g2 : (k == 2) = false := by simpa using h2
  have g3 : (k == 3) = false := by simpa using h3
  have g4 : (k == 4) = false := by simpa using h4
  rw [if_neg h1, if_neg h2, if_neg h3, if_neg h4]
  clear h1 h2 h3 h4
  go_enter Tryd.func53, Tryd.ntmps53
  go_wp2
  go_ret
  exact ⟨rfl, rfl⟩
theorem tag34 {k : Int} (h : Kd k) (ht : (34 : Int) ∈ tagsL k) : 65 ≤ k ∧ k ≤ 69 := by
  rcases kd_cases h with rfl | rfl | rfl | rfl | rfl | rfl | rfl | rfl | rfl
  all_goals first | (exfalso; revert ht; decide) | decide
theorem dec_call (x : Int) (hx : Wd x) (w : World) (hL : Lay w) : Calls Tryd.prog 51 #[.int .u64 x] w fun e w' => e = .returned (.string ⟨(decDigits x.toNat).toArray⟩) ∧ Below w.heap.size w w' := by
  unfold Wd at hx
  have h := decimal_any x.toNat (by omega) w hL
  rw [show ((x.toNat : Nat) : Int) = x by omega] at h
  exact h
theorem lt_le (k : Int) (F : Int → Int) : ∀ L : List Int, (ltL k F L).length ≤ 2 * L.length
  | [] => by simp [ltL]
  | t :: L => by
    have := lt_le k F L
    unfold ltL at this ⊢
    rw [List.flatMap_cons, List.length_append, List.length_cons]
    have h2 : (tagT k F t).length ≤ 2 := by unfold tagT; split <;> simp
    omega
set_option maxHeartbeats 2000000 in
set_option maxRecDepth 100000 in
theorem line_any (k : Int) (hk : Kd k) (b n : Nat) (F : Int → Int) (hW : ∀ t, Wd (F t)) (w : World) (hF : Fm w b n F) (hL : Lay w) :
    Calls Tryd.prog 24 #[.agg #[.int .u8 k, .map (some b)]] w fun e w' => ∃ v, e = .returned (.tuple #[v, .int .i64 0]) ∧ Own w.heap.size w w' v (lineB (lineK k) (ltL k F (tagsL k))) := by
  have HE := hid (enc_line hk F hW)
  have EN := hid (fun q cap w hc hm hT hL => encode_any (lineK k) (ltL k F (tagsL k)) q cap w (by have := lineK_len k; omega) (fun x hx => by have := (lt_vals hk F hW x hx).2; omega) (by have := (lt_tags hk F).2.1; omega) hc hm hT hL)
  have hEB : encB (lineK k) (ltL k F (tagsL k)) = lineB (lineK k) (ltL k F (tagsL k)) := by unfold encB; rw [if_pos HE.out]
  rw [HE.out, hEB] at EN
  have LK := hid (fun w => linekind_any k w)
  have TA := hid (fun w => tags_any k w)
  have hlen := tags_len k
  have HIN := hid (tags_in k)
  have H34 := hid (fun ht => tag34 hk ht)
  have DC := hid (fun t w hL => dec_call (F t) (hW t) w hL)
  obtain ⟨L, hLL⟩ : ∃ l, tagsL k = l := ⟨_, rfl⟩
  obtain ⟨KL, hKL⟩ : ∃ l, lineK k = l := ⟨_, rfl⟩
  unfold TagsP at TA
  rw [hLL] at EN TA hlen HIN H34 ⊢
  rw [hKL] at EN LK ⊢
  obtain ⟨OUT, hOUT⟩ : ∃ l, lineB KL (ltL k F L) = l := ⟨_, rfl⟩
  rw [hOUT] at EN ⊢
  have HFw := hid (hF.on (ball w (.cells #[.int .u8 k, .map (some b)] 61)))
  have HLw := hid (hL.on (ball w (.cells #[.int .u8 k, .map (some b)] 61)))
  have HR := hid (heap_alloc_new w (.cells #[.int .u8 k, .map (some b)] 61))
  clear hk hF hL HE hEB hLL hKL hOUT
  go_enter Tryd.func24, Tryd.ntmps24
  go_wp2_with (first | (go_at_call 50; refine (TA.out _).mono ?_; rintro e w2 ⟨q, cap, rfl, hS, hb⟩; have HS := hid hS; have HB2 := hid hb; clear hS hb; refine Hid.out ?_))
  have HF2 := hid (HFw.out.on HB2.out)
  have HL2 := hid (HLw.out.on HB2.out)
  have HR2 := hid (row_on HR.out HB2.out)
  have HBW := hid (btr (ball w (.cells #[.int .u8 k, .map (some b)] 61)) HB2.out)
  clear HFw HLw HR HB2 TA
  refine hid ?_
  go_wp2
  go_loopw [4, 11] (fun lv iv wr => ∃ j : Nat, j ≤ L.length ∧ iv = .int .i64 j ∧ Hid (OwnT w2.heap.size w2 wr lv (ltL k F (L.take j)))) (fun _ iv _ => L.length - (RowKit.intOf iv).toNat)
  case atStart => exact ⟨0, Nat.zero_le _, rfl, hid (by simpa [ltL] using ownT_nil w2)⟩
  case round =>
    obtain ⟨j, hj, rfl, HO⟩ := hrel
    by_cases hjl : j < L.length
    · have hjl' : (j : Int) < (L.length : Int) := by omega
      have hj0 : (0 : Int) ≤ (j : Int) := by omega
      obtain ⟨qb, qo, rfl, hcell2⟩ := HS.out j hjl
      have hcell : wr.cell? ⟨qb, qo + j, none⟩ = some (.int .i64 L[j]) := (HO.out.2.1.cell (cell_lt hcell2)).trans hcell2
      have HST := hid (ltL_step k F L j hjl)
      have hti := HIN.out L[j] (List.getElem_mem hjl)
      have h34 := H34.out
      have hmem : L[j] ∈ L := List.getElem_mem hjl
      obtain ⟨t, ht⟩ : ∃ t, L[j] = t := ⟨_, rfl⟩
      rw [ht] at hcell HST hti hmem
      have hwt := wf_tag hti
      have hm2 : wr.cell? ⟨w.heap.size, 1, none⟩ = some (.map (some b)) := row_cell (row_on HR2.out HO.out.2.1) 1
      have hm0 : wr.cell? ⟨w.heap.size, 0, none⟩ = some (.int .u8 k) := row_cell (row_on HR2.out HO.out.2.1) 0
      have HFr := hid (HF2.out.on HO.out.2.1)
      have HLr := hid (HL2.out.on HO.out.2.1)
      have hll : (ltL k F (L.take j)).length ≤ 900 := by
        have := lt_le k F (L.take j)
        rw [List.length_take] at this
        omega
      clear ht hcell2
      obtain ⟨l, hl⟩ : ∃ l, ltL k F (L.take j) = l := ⟨_, rfl⟩
      rw [hl] at HO HST hll
      clear hl
      by_cases h3 : t = 34
      · subst h3
        obtain ⟨k1, k2⟩ := h34 hmem
        have hs34 : tagT k F 34 = [(34, decDigits (F 34).toNat), (150, decDigits (k - 64).toNat)] := by unfold tagT; rw [if_pos rfl]
        rw [hs34] at HST
        have e1 : IntKind.u8.wrap (k - 64) = k - 64 := by rw [IntKind.wrap_u8]; omega
        have e2 : (k - 64) % 18446744073709551616 = k - 64 := by omega
        have DK := hid (fun w hL => dec_call (k - 64) (by unfold Wd; omega) w hL)
        clear hs34 h34
        go_wp2_with (first
          | (at_lookup; refine wpList_fm_look _ rfl _ _ rfl b n F _ rfl rfl HFr.out hwt ?_)
          | (go_at_call 51; refine (DC.out 34 _ HLr.out).mono ?_; rintro e w3 ⟨rfl, hb⟩; have HO3 := hid (HO.out.on hb); clear hb; refine Hid.out ?_))
        refine hid ?_
        go_wp2_with (first
          | (at_builtin; refine own_tag (by rfl) (.tmp 15) (.tmp 23) (by rfl) w2.heap.size _ l (by rfl) w2 w3 34 (decDigits (F 34).toNat) HO3.out (by rfl) (by omega) ?_; intro v4 w4 hO4; have HO4 := hid hO4; clear hO4; refine Hid.out ?_))
        have hm4 : w4.cell? ⟨w.heap.size, 0, none⟩ = some (.int .u8 k) := row_cell (row_on HR2.out HO4.out.2.1) 0
        have HL4 := hid (HL2.out.on HO4.out.2.1)
        clear hm2 hm0 hcell
        refine hid ?_
        go_wp2_with (first
          | (go_at_call 51; refine (DK.out _ HL4.out).mono ?_; rintro e w5 ⟨rfl, hb⟩; have HO5 := hid (HO4.out.on hb); clear hb; refine Hid.out ?_))
        refine hid ?_
        go_wp2_with (first
          | (at_builtin; refine own_tag (by rfl) (.tmp 27) (.tmp 34) (by rfl) w2.heap.size _ (l ++ [(34, decDigits (F 34).toNat)]) (by rfl) w2 w5 150 (decDigits (k - 64).toNat) HO5.out (by rfl) (by simp; omega) ?_; intro v6 w6 hO6; have HO6 := hid hO6; clear hO6; refine Hid.out ?_))
        refine hid ?_
        go_wp2
        go_roundw
        case rel => exact ⟨j + 1, by omega, by go_num, hid (by rw [HST.out]; simpa using HO6.out)⟩
        case measure => simp [RowKit.intOf]; omega
      · have hs34 : tagT k F t = [(t, decDigits (F t).toNat)] := by unfold tagT; rw [if_neg h3]
        rw [hs34] at HST
        have h3f : (t == 34) = false := by simpa using h3
        clear hs34 h34 h3
        go_wp2_with (first
          | (at_lookup; refine wpList_fm_look _ rfl _ _ rfl b n F _ rfl rfl HFr.out hwt ?_)
          | (go_at_call 51; refine (DC.out t _ HLr.out).mono ?_; rintro e w3 ⟨rfl, hb⟩; have HO3 := hid (HO.out.on hb); clear hb; refine Hid.out ?_))
        refine hid ?_
        go_wp2_with (first
          | (at_builtin; refine own_tag (by rfl) (.tmp 15) (.tmp 23) (by rfl) w2.heap.size _ l (by rfl) w2 w3 t (decDigits (F t).toNat) HO3.out (by rfl) (by omega) ?_; intro v4 w4 hO4; have HO4 := hid hO4; clear hO4; refine Hid.out ?_))
        refine hid ?_
        go_wp2
        go_roundw
        case rel => exact ⟨j + 1, by omega, by go_num, hid (by rw [HST.out]; exact HO4.out)⟩
        case measure => simp [RowKit.intOf]; omega
    · have hje : j = L.length := by omega
      subst hje
      have hfin := HO.out
      rw [List.take_length] at hfin
      have HO2 := hid hfin
      clear hfin HO
      obtain ⟨ql, cl, rfl, hTl, hcl, hml⟩ := HO2.out.form
      have HT := hid hTl
      have hm0 : wr.cell? ⟨w.heap.size, 0, none⟩ = some (.int .u8 k) := row_cell (row_on HR2.out HO2.out.2.1) 0
      have HLr := hid (HL2.out.on HO2.out.2.1)
      have HBr := hid (btr HBW.out HO2.out.2.1)
      clear hTl
      go_wp2_with (first
        | (go_at_call 53; refine (LK.out _).mono ?_; rintro e w3 ⟨rfl, rfl⟩)
        | (go_at_call 52; refine (EN.out _ _ _ hcl hml HT.out HLr.out).mono ?_; rintro e w4 ⟨v, rfl, hO, hn⟩; have HOO := hid hO; clear hO hn; refine Hid.out ?_))
      refine hid ?_
      go_wp2
      go_ret2
      exact ⟨v, by simp, Own.down HOO.out HBr.out HBr.out.size⟩
end Go.Proofs.YtacdjioieclggaaDoor.Msg
namespace Go.Proofs.YtacdjioieclggaaDoor.Msg
open Go.RowKit Go.Maps Go.Deep Go.Lib
set_option linter.unusedVariables false
set_option linter.unusedSimpArgs false
theorem conv_any {w : World} {q : Option Addr} {l : List UInt8} (h : Sb w q l) (c : Nat) : (convert 31 9 (.slice q l.length c)).run Tryd.prog w = .ok (.string ⟨l.toArray⟩) w := by
  cases q with
  | none =>
    have hl : l = [] := by
      cases l with
      | nil => rfl
      | cons x l => obtain ⟨b, o, e, _⟩ := h 0 (by simp); cases e
    subst hl
    rw [List.length_nil, run_convert_bytes_nil w 31 5 Tryd.underlying31 Tryd.underlying5 0 c 9 Tryd.underlying9]
    rfl
  | some a =>
    exact run_convert_bytes_back (P := Tryd.prog) w 31 9 5 a c l Tryd.underlying31 Tryd.underlying5 Tryd.underlying9 (fun j hj => by
      obtain ⟨b, o, e, h0⟩ := h j hj
      simp only [Option.some.injEq] at e
      subst e
      rw [Addr.add_mid]
      exact h0)
theorem equal_any (l m : List UInt8) (q r : Option Addr) (c d : Nat) (w : World) (h1 : Sb w q l) (h2 : Sb w r m) :
    Calls Tryd.prog 41 #[.slice q l.length c, .slice r m.length d] w fun e w' => e = .returned (.bool (l == m)) ∧ w' = w := by
  have cv1 := conv_any h1 c
  have cv2 := conv_any h2 d
  go_enter Tryd.func41, Tryd.ntmps41
  go_wp2
  go_ret
  exact ⟨by simp, rfl⟩
set_option maxHeartbeats 1000000 in
theorem inputkind_any (kind : List UInt8) (w : World) :
    Calls Tryd.prog 39 #[.string ⟨kind.toArray⟩] w fun e w' => e = .returned (.tuple #[.int .u8 ((inK kind).getD 0), .bool (inK kind).isSome]) ∧ w' = w := by
  have LK := hid (fun k w => linekind_any k w)
  have II := hid (fun k w => isInput_any k w)
  go_enter Tryd.func39, Tryd.ntmps39
  go_wp2_with fail
  go_loopw [4] (fun kv wr => ∃ k : Nat, kv = .int .u8 k ∧ 1 ≤ k ∧ k ≤ 5 ∧ wr = w ∧ Hid (∀ i : Int, 1 ≤ i → i < k → lineK i ≠ kind)) (fun kv _ => 5 - (RowKit.intOf kv).toNat)
  case atStart => exact ⟨1, rfl, by omega, by omega, rfl, hid (fun i h1 h2 => by omega)⟩
  case round =>
    obtain ⟨k, rfl, h1, h5, rfl, HN⟩ := hrel
    by_cases hk : k = 5
    · subst hk
      have hno : inK kind = none := by
        have a1 := HN.out 1 (by omega) (by omega)
        have a2 := HN.out 2 (by omega) (by omega)
        have a3 := HN.out 3 (by omega) (by omega)
        have a4 := HN.out 4 (by omega) (by omega)
        unfold inK
        rw [if_neg (fun e => a1 (by rw [e]; rfl)), if_neg (fun e => a2 (by rw [e]; rfl)), if_neg (fun e => a3 (by rw [e]; rfl)), if_neg (fun e => a4 (by rw [e]; rfl))]
      have HNO := hid hno
      clear hno
      have I5 := hid (fun w => II.out (5 : Int) w)
      rw [show decide ((1 : Int) ≤ 5 ∧ (5 : Int) ≤ 4) = false by decide] at I5
      go_wp2_with (first | (go_at_call 36; refine (I5.out _).mono ?_; rintro e w' ⟨rfl, rfl⟩))
      go_ret2
      exact ⟨by rw [HNO.out]; simp, rfl⟩
    · have h4 : k ≤ 4 := by omega
      have IK := hid (fun w => II.out (k : Int) w)
      rw [show decide ((1 : Int) ≤ (k : Int) ∧ (k : Int) ≤ 4) = true by simp; omega] at IK
      have LL := hid (fun w => LK.out (k : Int) w)
      obtain ⟨KL, hKL⟩ : ∃ x, lineK (k : Int) = x := ⟨_, rfl⟩
      rw [hKL] at LL
      by_cases he : KL = kind
      · have hin : inK kind = some (k : Int) := by rw [← he, ← hKL]; exact inK_line (by omega) (by omega)
        have HNO := hid hin
        have hq : (KL == kind) = true := by simpa using he
        clear hin he hKL
        go_wp2_with (first | (go_at_call 36; refine (IK.out _).mono ?_; rintro e w' ⟨rfl, rfl⟩) | (go_at_call 53; refine (LL.out _).mono ?_; rintro e w' ⟨rfl, rfl⟩))
        go_ret2
        exact ⟨by rw [HNO.out]; simp, rfl⟩
      · have hq : (KL == kind) = false := by simpa using he
        have HN2 := hid (show ∀ i : Int, 1 ≤ i → i < ((k + 1 : Nat) : Int) → lineK i ≠ kind from fun i i1 i2 => by
          by_cases hi : i = (k : Int)
          · subst hi; rw [hKL]; exact he
          · exact HN.out i i1 (by omega))
        have hw : IntKind.u8.wrap ((k : Int) + 1) = ((k + 1 : Nat) : Int) := by rw [IntKind.wrap_u8]; omega
        clear he hKL HN
        go_wp2_with (first | (go_at_call 36; refine (IK.out _).mono ?_; rintro e w' ⟨rfl, rfl⟩) | (go_at_call 53; refine (LL.out _).mono ?_; rintro e w' ⟨rfl, rfl⟩))
        go_roundw
        case rel => exact ⟨k + 1, by first | rfl | (congr 1) | (simp; omega), by omega, by omega, by first | rfl | trivial, HN2⟩
        case measure => simp [RowKit.intOf]; omega
theorem Ts.mid {w : World} {b o : Nat} {l : List (Int × List UInt8)} (h : Ts w (some ⟨b, o, none⟩) l) (hl : 2 ≤ l.length) : Ts w (some ⟨b, o + 2, none⟩) ((l.drop 1).take 1) := by
  intro i hi
  have hi0 : i = 0 := by simp at hi; omega
  subst hi0
  obtain ⟨b', o', e, h0, h1⟩ := h 1 (by omega)
  obtain ⟨rfl, rfl⟩ : b = b' ∧ o = o' := by simpa using e
  refine ⟨b, o + 2, rfl, ?_, ?_⟩
  · simpa using h0
  · simpa using h1
set_option maxHeartbeats 1000000 in
theorem eventkind_any (kind : List UInt8) (l : List (Int × List UInt8)) (q : Option Addr) (cap : Nat) (w : World) (hl : l.length < 9223372036854775808) (hcap : l.length ≤ cap) (hcm : cap < 9223372036854775808) (hs : ∀ x ∈ l, x.2.length ≤ 281474976710656) (hT : Ts w q l) (hE : LayE w) :
    Calls Tryd.prog 44 #[.string ⟨kind.toArray⟩, .slice q l.length cap] w fun e w' => e = .returned (.tuple #[.int .u8 ((evK kind l).getD 0), .bool (evK kind l).isSome]) ∧ Below w.heap.size w w' := by
  by_cases hk : kind = [56]
  · subst hk
    by_cases h2 : 2 ≤ l.length
    · obtain ⟨b, o, rfl, h00, h01⟩ := hT 1 (by omega)
      have hml : ((l.drop 1).take 1).length = 1 := by simp; omega
      have NM := hid (fun c => tnumber_any ((l.drop 1).take 1) (some ⟨b, o + 2, none⟩) c 150 w (by omega) (fun x hx => hs x (List.mem_of_mem_drop (List.mem_of_mem_take hx))) (Ts.mid hT h2) hE)
      rw [hml] at NM
      have hev : evK [56] l = if (numOf ((l.drop 1).take 1) 150).2 = 0 ∧ 1 ≤ (numOf ((l.drop 1).take 1) 150).1 ∧ (numOf ((l.drop 1).take 1) 150).1 ≤ 5 then some (64 + ((numOf ((l.drop 1).take 1) 150).1 : Int)) else none := by unfold evK; rw [if_pos ⟨rfl, h2⟩]
      rw [hev]
      have hnw : (numOf ((l.drop 1).take 1) 150).1 < 18446744073709551616 := by
        have := nmF_wd ((l.drop 1).take 1) 150
        unfold nmF Wd at this
        omega
      obtain ⟨n, why, hnn⟩ : ∃ n y, numOf ((l.drop 1).take 1) 150 = (n, y) := ⟨_, _, rfl⟩
      rw [hnn] at NM hnw ⊢
      simp only at NM hnw ⊢
      have l2 : ¬ ((l.length : Int) < 2) := by omega
      have c0 : (2 : Int) ≤ (cap : Int) := by omega
      clear hev hnn h00 h01 hT hs hE
      by_cases hy : why = 0
      · subst hy
        by_cases n1 : 1 ≤ n
        · by_cases n5 : n ≤ 5
          · have g1 : ¬ ((n : Int) < 1) := by omega
            have g5 : ¬ ((5 : Int) < (n : Int)) := by omega
            have e1 : (n : Int) % 256 = (n : Int) := by omega
            have e2 : IntKind.u8.wrap (64 + (n : Int)) = 64 + (n : Int) := by rw [IntKind.wrap_u8]; omega
            rw [if_pos ⟨rfl, n1, n5⟩]
            go_enter Tryd.func44, Tryd.ntmps44
            go_wp2_with (first | (go_at_call 71; refine (NM.out _).mono ?_; rintro e w' ⟨rfl, hb⟩; have HB := hid hb; clear hb; refine Hid.out ?_))
            refine hid ?_
            go_wp2
            go_ret2
            exact ⟨by simp, HB.out⟩
          · have g1 : ¬ ((n : Int) < 1) := by omega
            have g5 : ((5 : Int) < (n : Int)) := by omega
            rw [if_neg (fun h => n5 h.2.2)]
            go_enter Tryd.func44, Tryd.ntmps44
            go_wp2_with (first | (go_at_call 71; refine (NM.out _).mono ?_; rintro e w' ⟨rfl, hb⟩; have HB := hid hb; clear hb; refine Hid.out ?_))
            refine hid ?_
            go_wp2
            go_ret2
            exact ⟨by simp, HB.out⟩
        · have g1 : ((n : Int) < 1) := by omega
          rw [if_neg (fun h => n1 h.2.1)]
          go_enter Tryd.func44, Tryd.ntmps44
          go_wp2_with (first | (go_at_call 71; refine (NM.out _).mono ?_; rintro e w' ⟨rfl, hb⟩; have HB := hid hb; clear hb; refine Hid.out ?_))
          refine hid ?_
          go_wp2
          go_ret2
          exact ⟨by simp, HB.out⟩
      · have g0 : (why != 0) = true := by simpa using hy
        rw [if_neg (fun h => hy h.1)]
        clear hy
        go_enter Tryd.func44, Tryd.ntmps44
        go_wp2_with (first | (go_at_call 71; refine (NM.out _).mono ?_; rintro e w' ⟨rfl, hb⟩; have HB := hid hb; clear hb; refine Hid.out ?_))
        refine hid ?_
        go_wp2
        go_ret2
        exact ⟨by simp, HB.out⟩
    · have hev : evK [56] l = none := by unfold evK; rw [if_neg (fun h => h2 h.2)]
      have l2 : ((l.length : Int) < 2) := by omega
      rw [hev]
      clear hev hT hs hE
      go_enter Tryd.func44, Tryd.ntmps44
      go_wp2
      go_ret2
      exact ⟨by simp, Below.refl _ _⟩
  · have hev : evK kind l = none := by unfold evK; rw [if_neg (fun h => hk h.1)]
    have g0 : (kind == [56]) = false := by simpa using hk
    rw [hev]
    clear hev hT hs hE
    go_enter Tryd.func44, Tryd.ntmps44
    go_wp2
    go_ret2
    exact ⟨by simp, Below.refl _ _⟩
structure RtR (w : World) (k : Int) (l : List (Int × List UInt8)) (q : Option Addr) (L : List Int) (j : Nat) (wr : World) : Prop where
  r0 : wr.heap[w.heap.size]? = some (.cells #[.int .u8 0, .map none] 61 (0, 0))
  m : Fm wr (w.heap.size + 1) j (only (L.take j) (nmF l))
  r2 : wr.heap[w.heap.size + 1 + 1]? = some (.cells #[.int .u8 k, .map (some (w.heap.size + 1))] 61 (0, 0))
  s : Sn wr q L
  bel : Below w.heap.size w wr
theorem RtR.step {w wr w1 w3 : World} {k : Int} {l : List (Int × List UInt8)} {q : Option Addr} {L : List Int} {j : Nat} (h : RtR w k l q L j wr) (hb : Below wr.heap.size wr w1) (hg : w1.grownBy w3 (some (w.heap.size + 1))) (hF : Fm w3 (w.heap.size + 1) (j + 1) (only (L.take (j + 1)) (nmF l))) : RtR w k l q L (j + 1) w3 :=
  ⟨row_grown (row_on h.r0 hb) hg (by omega), hF, row_grown (row_on h.r2 hb) hg (by omega), (h.s.on hb).grown (h.m.on hb) hg, (btr h.bel hb).grown hg (btr h.bel hb).size (fun i hi => by cases hi; omega)⟩
set_option maxHeartbeats 2000000 in
set_option maxRecDepth 100000 in
theorem readtags_any (k : Int) (l : List (Int × List UInt8)) (q : Option Addr) (cap : Nat) (w : World) (hl : l.length < 9223372036854775808) (hs : ∀ x ∈ l, x.2.length ≤ 281474976710656) (hT : Ts w q l) (hE : LayE w) :
    Calls Tryd.prog 40 #[.int .u8 k, .slice q l.length cap] w fun e w' => ∃ b n, e = .returned (.agg #[.int .u8 k, .map (some b)]) ∧ n ≤ 8 ∧ w.heap.size ≤ b ∧ Fm w' b n (only (tagsL k) (nmF l)) ∧ Below w.heap.size w w' := by
  have HT := hid hT
  have HE := hid hE
  have hmm := @run_makeMap Tryd.prog
  have TA := hid (fun w => tags_any k w)
  have hlen := tags_len k
  have HIN := hid (tags_in k)
  have NM := hid (fun t w hT hE => tnumber_any l q cap t w hl hs hT hE)
  have HWD := hid (nmF_wd l)
  clear hT hE hs
  go_enter Tryd.func40, Tryd.ntmps40
  go_wp2_with (first | (go_at_call 50; refine (TA.out _).mono ?_; rintro e w2 ⟨q2, cap2, rfl, hS, hb⟩; have HS := hid hS; have HB2 := hid hb; clear hS hb; refine Hid.out ?_))
  refine hid ?_
  obtain ⟨r0, r1, r2, hB⟩ := three _ _ _ _ HB2.out
  have M0 : Fm w2 (w.heap.size + 1) 0 (only ((tagsL k).take 0) (nmF l)) := by
    rw [List.take_zero, only_nil]
    exact ⟨.map [], ⟨#[], 0, r1, ⟨by simp, MapKept.stamped_empty 0, by simp⟩, Nat.le_refl _, rfl⟩, fun t => rfl⟩
  have PK := hid (show RtR w k l q2 (tagsL k) 0 w2 from ⟨r0, M0, r2, HS.out, hB⟩)
  clear r0 r1 r2 M0 HS HB2 TA hB
  obtain ⟨L, hL⟩ : ∃ l, tagsL k = l := ⟨_, rfl⟩
  rw [hL] at PK HIN hlen ⊢
  have HTL := hid hL
  clear hL
  go_wp2
  go_loopw [14] (fun iv wr => ∃ j : Nat, j ≤ L.length ∧ iv = .int .i64 j ∧ RtR w k l q2 L j wr) (fun iv _ => L.length - (RowKit.intOf iv).toNat)
  case atStart => exact ⟨0, Nat.zero_le _, rfl, PK.out⟩
  case round =>
    obtain ⟨j, hj, rfl, hpk⟩ := hrel
    have PJ := hid hpk
    clear hpk PK
    by_cases hjl : j < L.length
    · have hjl' : (j : Int) < (L.length : Int) := by omega
      have hj0 : (0 : Int) ≤ (j : Int) := by omega
      obtain ⟨qb, qo, rfl, hcell⟩ := PJ.out.s j hjl
      have HON := hid (only_step L (nmF l) j hjl)
      have hti := HIN.out L[j] (List.getElem_mem hjl)
      obtain ⟨t, ht⟩ : ∃ t, L[j] = t := ⟨_, rfl⟩
      rw [ht] at hcell HON hti
      clear ht
      have hwt := wf_tag hti
      have hm2 : wr.cell? ⟨w.heap.size + 1 + 1, 1, none⟩ = some (.map (some (w.heap.size + 1))) := row_cell PJ.out.r2 1
      have HBD := hid (show Below wr.heap.size wr wr.drew from Below.drew (Below.refl _ _))
      have HTr := hid ((HT.out.on PJ.out.bel).on HBD.out)
      have HEr := hid ((HE.out.on PJ.out.bel).on HBD.out)
      have N1 := hid (show Calls Tryd.prog 71 #[.slice q l.length cap, .int .i64 t] wr.drew fun e w' => e = .returned (.tuple #[.int .u64 (nmF l t), .int .i64 (numOf l t).2]) ∧ Below wr.drew.heap.size wr.drew w' from NM.out t wr.drew HTr.out HEr.out)
      obtain ⟨Y, hY⟩ : ∃ y, (numOf l t).2 = y := ⟨_, rfl⟩
      rw [hY] at N1
      have hwd := HWD.out t
      obtain ⟨c, hc⟩ : ∃ y, nmF l t = y := ⟨_, rfl⟩
      rw [hc] at N1 hwd HON
      clear hY hti hc
      go_wp2
      go_region_with (first | (go_at_call 71; refine N1.out.mono ?_; rintro e w1 ⟨rfl, hb⟩; (have HB1 := hid (show Below wr.heap.size wr w1 from btr HBD.out hb)); (have hm3 : w1.cell? ⟨w.heap.size + 1 + 1, 1, none⟩ = some (.map (some (w.heap.size + 1))) := row_cell (row_on PJ.out.r2 HB1.out) 1); (obtain ⟨w3, hput, hF3, hg3⟩ := (PJ.out.m.on HB1.out).put (by omega) t c hwt hwd); (have PN := hid (show RtR w k l (some ⟨qb, qo, none⟩) L (j + 1) w3 from PJ.out.step HB1.out hg3 (HON.out ▸ hF3))); clear hb hF3 hg3 hm2))
      all_goals
        go_wp2
        go_roundw
        case rel => exact ⟨j + 1, by omega, by go_num, PN.out⟩
        case measure => simp [RowKit.intOf]; omega
    · have hje : j = L.length := by omega
      subst hje
      have hp := PJ.out
      have hm := hp.m
      rw [List.take_length (l := L)] at hm
      have HM := hid hm
      have HZ := hp.r0
      have HZ2 := hp.r2
      have HBE := hid hp.bel
      clear hm hp PJ
      go_wp2_with (first
        | (refine wpList_load_row (by rfl) 61 (.tmp 5) (by rfl) (w.heap.size + 1 + 1) (by rfl) 61 #[.int .u8 k, .map (some (w.heap.size + 1))] (0, 0) _ HZ2 Tryd.underlying61 rfl info46 ?_)
        | (refine wpList_st (by rfl) 61 (.tmp 4) (.tmp 28) (by rfl) w.heap.size #[.int .u8 k, .map (some (w.heap.size + 1))] (by rfl) (by rfl) 61 #[.int .u8 0, .map none] HZ info46 rfl (by simp [Value.oneCell']) ?_; intro w3 hst; have HST := hid hst; clear hst; refine Hid.out ?_))
      refine hid ?_
      go_wp2
      exact bodyPost_ret (results_cell_row (fn := Tryd.f40) Tryd.results40 _ _ w.heap.size 61 #[.int .u8 k, .map (some (w.heap.size + 1))] (0, 0) _ (by rfl) HST.out.row Tryd.underlying61 rfl info46) rfl ⟨_, _, rfl, hlen, by omega, by rw [HTL.out]; exact HST.out.fm (by omega) HM.out, HST.out.bel _ _ HBE.out (by omega)⟩
end Go.Proofs.YtacdjioieclggaaDoor.Msg
namespace Go.Proofs.YtacdjioieclggaaDoor.Msg
open Go.RowKit Go.Maps Go.Deep Go.Lib
set_option linter.unusedVariables false
set_option linter.unusedSimpArgs false
theorem own_nilW {w w' : World} (h : Below w.heap.size w w') : Own w.heap.size w w' (.slice none 0 0) [] := own_nilB h
theorem res27t (fn : Func) (p u v : Tmp) (h : fn.results = #[.cell p 27, .tmp u, .tmp v]) (tmps : Array Value) (w : World) (g : Nat) (cs : Array Value) (eu ev : Value)
    (hp : tmps.getD p undef = .pointer (some ⟨g, 0, none⟩)) (hu : tmps.getD u undef = eu) (hv : tmps.getD v undef = ev) (hg : w.heap[g]? = some (.cells cs 27 (0, 0))) (hi : (Tryd.prog.info? 27).map (·.size) = some cs.size) :
    (results fn tmps).run Tryd.prog w = .ok (.tuple #[.agg cs, eu, ev]) w := by
  have hp' : tmps[p]?.getD undef = .pointer (some ⟨g, 0, none⟩) := by simpa using hp
  have hu' : tmps[u]?.getD undef = eu := by simpa using hu
  have hv' : tmps[v]?.getD undef = ev := by simpa using hv
  simp [results, h, hp', hu', hv', asAddr, run_loadVar_row w g 27 27 cs (0, 0) _ hg Tryd.underlying27 rfl hi]
theorem res30t (fn : Func) (p u v : Tmp) (h : fn.results = #[.cell p 30, .tmp u, .tmp v]) (tmps : Array Value) (w : World) (g : Nat) (cs : Array Value) (eu ev : Value)
    (hp : tmps.getD p undef = .pointer (some ⟨g, 0, none⟩)) (hu : tmps.getD u undef = eu) (hv : tmps.getD v undef = ev) (hg : w.heap[g]? = some (.cells cs 30 (0, 0))) (hi : (Tryd.prog.info? 30).map (·.size) = some cs.size) :
    (results fn tmps).run Tryd.prog w = .ok (.tuple #[.agg cs, eu, ev]) w := by
  have hp' : tmps[p]?.getD undef = .pointer (some ⟨g, 0, none⟩) := by simpa using hp
  have hu' : tmps[u]?.getD undef = eu := by simpa using hu
  have hv' : tmps[v]?.getD undef = ev := by simpa using hv
  simp [results, h, hp', hu', hv', asAddr, run_loadVar_row w g 30 30 cs (0, 0) _ hg Tryd.underlying30 rfl hi]

set_option maxHeartbeats 2000000 in
set_option maxRecDepth 100000 in
theorem lineI_any (x : Inp) (hx : x.Ok) (w : World) (hL : Lay w) :
    Calls Tryd.prog 8 #[.agg x.v] w fun e w' => ∃ v, e = .returned (.tuple #[v, .int .i64 x.e]) ∧ Own w.heap.size w w' v (lnB x) ∧ (x.e ≠ 0 → v = .slice none 0 0) := by
  by_cases h : x.e = 0
  · have SA := hid (fun w => say_ok x hx w h)
    have LN := hid (fun b n w hF hL => line_any x.k (kd_inp x h) b n x.F (F_wd x hx) w hF hL)
    have hln : lnB x = lineB (lineK x.k) (ltL x.k x.F (tagsL x.k)) := by unfold lnB; rw [if_pos h]; rfl
    rw [h, hln]
    obtain ⟨OUT, hO⟩ : ∃ y, lineB (lineK x.k) (ltL x.k x.F (tagsL x.k)) = y := ⟨_, rfl⟩
    rw [hO] at LN ⊢
    obtain ⟨k, hk⟩ : ∃ k, x.k = k := ⟨_, rfl⟩
    rw [hk] at SA LN
    have HL := hid hL
    clear hk hx h hln hO hL
    unfold Inp.v iV at *
    go_enter Tryd.func8, Tryd.ntmps8
    go_wp2_with (first | (go_at_call 23; refine (SA.out _).mono ?_; rintro e w2 ⟨b, n, rfl, hF, hb⟩; have HF := hid hF; have HB := hid hb; clear hF hb; refine Hid.out ?_))
    have HF2 := hid (HF.out.alloc (.cells #[.int .u8 k, .map (some b)] 61))
    have HB2 := hid (show Below w.heap.size w (w2.alloc (.cells #[.int .u8 k, .map (some b)] 61)) from btr (btr (ball _ _) HB.out) (ball _ _))
    have HL2 := hid (HL.out.on HB2.out)
    clear HF HB SA
    refine hid ?_
    go_wp2_with (first | (go_at_call 24; refine (LN.out _ _ _ HF2.out HL2.out).mono ?_; rintro e w3 ⟨v, rfl, hO⟩; have HO := hid hO; clear hO; refine Hid.out ?_))
    refine hid ?_
    go_wp2
    go_ret2
    exact ⟨v, by simp, Own.down HO.out HB2.out HB2.out.size, fun h => absurd rfl h⟩
  · have SA := hid (fun w => say_bad x hx w h)
    have hln : lnB x = [] := by unfold lnB; rw [if_neg h]
    rw [hln]
    obtain ⟨E, hE⟩ : ∃ E, x.e = E := ⟨_, rfl⟩
    rw [hE] at SA h ⊢
    have hne : (E != 0) = true := by simpa using h
    clear h hx hE hln
    unfold Inp.v iV at *
    go_enter Tryd.func8, Tryd.ntmps8
    go_wp2_with (first | (go_at_call 23; refine (SA.out _).mono ?_; rintro e w2 ⟨rfl, hb⟩; have HB := hid hb; clear hb; refine Hid.out ?_))
    refine hid ?_
    go_wp2
    go_ret2
    exact ⟨_, by simp, own_nilW (btr (btr (ball _ _) HB.out) (ball _ _)), fun _ => rfl⟩

set_option maxHeartbeats 2000000 in
set_option maxRecDepth 100000 in
theorem lineE_any (x : Evt) (hx : x.Ok) (w : World) (hL : Lay w) :
    Calls Tryd.prog 10 #[.agg x.v] w fun e w' => ∃ v, e = .returned (.tuple #[v, .int .i64 x.e]) ∧ Own w.heap.size w w' v (lnE x) ∧ (x.e ≠ 0 → v = .slice none 0 0) := by
  by_cases h : x.e = 0
  · have SA := hid (fun w => sayE_ok x hx w h)
    have LN := hid (fun b n w hF hL => line_any x.k (kd_evt x h).1 b n x.F (FE_wd x hx) w hF hL)
    have hln : lnE x = lineB (lineK x.k) (ltL x.k x.F (tagsL x.k)) := by unfold lnE; rw [if_pos h]; rfl
    rw [h, hln]
    obtain ⟨OUT, hO⟩ : ∃ y, lineB (lineK x.k) (ltL x.k x.F (tagsL x.k)) = y := ⟨_, rfl⟩
    rw [hO] at LN ⊢
    obtain ⟨k, hk⟩ : ∃ k, x.k = k := ⟨_, rfl⟩
    rw [hk] at SA LN
    have HL := hid hL
    clear hk hx h hln hO hL
    unfold Evt.v eV at *
    go_enter Tryd.func10, Tryd.ntmps10
    go_wp2_with (first | (go_at_call 31; refine (SA.out _).mono ?_; rintro e w2 ⟨b, n, rfl, hF, hb⟩; have HF := hid hF; have HB := hid hb; clear hF hb; refine Hid.out ?_))
    have HF2 := hid (HF.out.alloc (.cells #[.int .u8 k, .map (some b)] 61))
    have HB2 := hid (show Below w.heap.size w (w2.alloc (.cells #[.int .u8 k, .map (some b)] 61)) from btr (btr (ball _ _) HB.out) (ball _ _))
    have HL2 := hid (HL.out.on HB2.out)
    clear HF HB SA
    refine hid ?_
    go_wp2_with (first | (go_at_call 24; refine (LN.out _ _ _ HF2.out HL2.out).mono ?_; rintro e w3 ⟨v, rfl, hO⟩; have HO := hid hO; clear hO; refine Hid.out ?_))
    refine hid ?_
    go_wp2
    go_ret2
    exact ⟨v, by simp, Own.down HO.out HB2.out HB2.out.size, fun h => absurd rfl h⟩
  · have SA := hid (fun w => sayE_bad x hx w h)
    have hln : lnE x = [] := by unfold lnE; rw [if_neg h]
    rw [hln]
    obtain ⟨E, hE⟩ : ∃ E, x.e = E := ⟨_, rfl⟩
    rw [hE] at SA h ⊢
    have hne : (E != 0) = true := by simpa using h
    clear h hx hE hln
    unfold Evt.v eV at *
    go_enter Tryd.func10, Tryd.ntmps10
    go_wp2_with (first | (go_at_call 31; refine (SA.out _).mono ?_; rintro e w2 ⟨rfl, hb⟩; have HB := hid hb; clear hb; refine Hid.out ?_))
    refine hid ?_
    go_wp2
    go_ret2
    exact ⟨_, by simp, own_nilW (btr (btr (ball _ _) HB.out) (ball _ _)), fun _ => rfl⟩

set_option maxHeartbeats 4000000 in
set_option maxRecDepth 100000 in
theorem readI_any (l : List UInt8) (q : Option Addr) (cap : Nat) (w : World) (hl : l.length < 4611686018427387904) (hcap : l.length ≤ cap) (hcm : cap < 9223372036854775808) (hS : Sb w q l) (hM : LayM w) :
    Calls Tryd.prog 17 #[.slice q l.length cap] w fun e w' => e = .returned (.tuple #[.agg (rlR l).1.v, .int .i64 ((rlR l).2.1 : Nat), .int .i64 (rlR l).2.2]) ∧ Below w.heap.size w w' := by
  have HS := hid hS
  have HM := hid hM
  have HI := hid (heap_alloc_new w (.cells zeroI.v 27))
  have HB0 := hid (ball w (.cells zeroI.v 27))
  have DE := hid (fun w hS hM => decode_any l q cap w hl hcap hcm hS hM)
  obtain ⟨kd, tg, n, er, hd⟩ : ∃ a b c d, decR l = (a, b, c, d) := ⟨_, _, _, _, rfl⟩
  have HD := hid hd
  rw [hd] at DE
  simp only at DE
  have HZ := hid (show zeroI.v = #[.int .i64 0, .int .i64 0, .int .u64 0, .int .u64 0, .int .u32 0, .int .i64 0, .int .i64 0, .int .i64 0, .int .u64 0, .int .u64 0, .int .i64 0] from rfl)
  rw [HZ.out] at HI HB0
  clear hS hM
  by_cases he : er = 0
  · subst he
    obtain ⟨n1, n2, n3, n4⟩ := decR_back hd
    obtain ⟨s1, s2, s3⟩ := line_small n3
    have HS3 := hid s3
    clear hd n3 n4 s3
    cases hk : inK kd with
    | none =>
      have hr : rlR l = (zeroI, 0, 41) := by
        unfold rlR
        rw [HD.out]
        simp only [ne_eq, not_true_eq_false, if_false, hk]
      rw [hr]
      simp only
      rw [HZ.out]
      have IK := hid (fun w => inputkind_any kd w)
      rw [hk] at IK
      clear hr HD
      go_enter Tryd.func17, Tryd.ntmps17
      go_wp2_with (first | (go_at_call 34; refine (DE.out _ (HS.out.on HB0.out) (HM.out.on HB0.out)).mono ?_; rintro e w2 ⟨v, rfl, hO⟩; have HO := hid hO; clear hO; refine Hid.out ?_))
      have HI2 := hid (row_on HI.out HO.out.2.1)
      have HB2 := hid (btr HB0.out HO.out.2.1)
      obtain ⟨ql, cl, rfl, hTl, hcl, hml⟩ := HO.out.form
      have HT := hid hTl
      have HE2 := hid (HM.out.on HB2.out).laye
      clear hTl HO DE HI HB0
      refine hid ?_
      have HI2K := hid HI2.out
      have HBK := hid HB2.out
      have HTK2 := hid HT.out
      have HEK := hid HE2.out
      go_wp2_with (first | (go_at_call 39; refine (IK.out _).mono ?_; rintro e w' ⟨rfl, rfl⟩; refine Hid.out ?_))
      refine hid ?_
      have HI3 := HI2K.out
      go_wp2_with (first | (refine wpList_st (by rfl) 27 (.tmp 2) (.tmp 33) (by rfl) w.heap.size #[.int .i64 0, .int .i64 0, .int .u64 0, .int .u64 0, .int .u32 0, .int .i64 0, .int .i64 0, .int .i64 0, .int .u64 0, .int .u64 0, .int .i64 0] (by rfl) (by rfl) 27 #[.int .i64 0, .int .i64 0, .int .u64 0, .int .u64 0, .int .u32 0, .int .i64 0, .int .i64 0, .int .i64 0, .int .u64 0, .int .u64 0, .int .i64 0] HI3 info27 rfl (by simp [Value.oneCell']) ?_; intro w5 hst; have HST := hid hst; clear hst; refine Hid.out ?_))
      refine hid ?_
      go_wp2
      exact bodyPost_ret (res27t Tryd.f17 2 3 4 Tryd.results17 _ _ w.heap.size #[.int .i64 0, .int .i64 0, .int .u64 0, .int .u64 0, .int .u32 0, .int .i64 0, .int .i64 0, .int .i64 0, .int .u64 0, .int .u64 0, .int .i64 0] _ _ (by rfl) (by rfl) (by rfl) HST.out.row info27) rfl ⟨by simp, HST.out.bel _ _ HBK.out (Nat.le_refl _)⟩
    | some k =>
      have hkk := inK_rg hk
      have IK := hid (fun w => inputkind_any kd w)
      rw [hk] at IK
      have RT := hid (fun q cap w hT hE => readtags_any k tg q cap w (by omega) (fun x hx => by have := HS3.out x hx; omega) hT hE)
      have IN := hid (fun b n w hF => input_any k b n (only (tagsL k) (nmF tg)) w (by omega) (by omega) hF)
      rw [inpV_rl k tg hkk.1 hkk.2.1] at IN
      have LI := hid (fun w hL => lineI_any (rlI k tg) (rlI_ok k tg).1 w hL)
      obtain ⟨Y, hY⟩ : ∃ y, rlI k tg = y := ⟨_, rfl⟩
      rw [hY] at IN LI
      have htl : (l.take n).length = n := by simp; omega
      have EQ := hid (fun q1 q2 c1 c2 w h1 h2 => equal_any (lnB Y) (l.take n) q1 q2 c1 c2 w h1 h2)
      rw [htl] at EQ
      have hr : rlR l = if Y.e = 0 ∧ lnB Y = l.take n then (Y, n, 0) else (zeroI, 0, 40) := by
        unfold rlR
        rw [HD.out]
        simp only [ne_eq, not_true_eq_false, if_false, hk]
        rw [hY]
      obtain ⟨OUT, hO⟩ : ∃ y, lnB Y = y := ⟨_, rfl⟩
      rw [hO] at EQ LI hr
      obtain ⟨E, hE⟩ : ∃ y, Y.e = y := ⟨_, rfl⟩
      rw [hE] at LI hr
      have HTK := hid (fun (w' : World) (hb : Below w.heap.size w w') => ((HS.out.on hb).take n))
      obtain ⟨bq, oq, rfl, _⟩ := HS.out 0 (by omega)
      have g3 : (0 : Int) ≤ (n : Int) := by omega
      have g4 : (n : Int) ≤ (cap : Int) := by omega
      clear hk hY HD hO hE hkk
      unfold Inp.v iV at *
      go_enter Tryd.func17, Tryd.ntmps17
      go_wp2_with (first | (go_at_call 34; refine (DE.out _ (HS.out.on HB0.out) (HM.out.on HB0.out)).mono ?_; rintro e w2 ⟨v, rfl, hO⟩; have HO := hid hO; clear hO; refine Hid.out ?_))
      have HI2 := hid (row_on HI.out HO.out.2.1)
      have HB2 := hid (btr HB0.out HO.out.2.1)
      obtain ⟨ql, cl, rfl, hTl, hcl, hml⟩ := HO.out.form
      have HT := hid hTl
      have HE2 := hid (HM.out.on HB2.out).laye
      clear hTl HO DE HI HB0
      refine hid ?_
      have HI2K := hid HI2.out
      have HBK := hid HB2.out
      have HTK2 := hid HT.out
      have HEK := hid HE2.out
      go_wp2_with (first | (go_at_call 39; refine (IK.out _).mono ?_; rintro e w' ⟨rfl, rfl⟩; refine Hid.out ?_))
      refine hid ?_
      go_wp2_with (first | (go_at_call 40; refine (RT.out _ _ _ HTK2.out HEK.out).mono ?_; rintro e w3 ⟨b, m, rfl, _, _, hF, hb⟩; have HF := hid hF; have HI4 := hid (row_on HI2K.out hb); have HB3 := hid (btr HBK.out hb); clear hF hb; refine Hid.out ?_))
      refine hid ?_
      go_wp2_with (first | (go_at_call 38; refine (IN.out _ _ _ HF.out).mono ?_; rintro e w4 ⟨rfl, hb⟩; have HI5 := hid (row_on HI4.out hb); have HB4 := hid (btr HB3.out hb); clear hb; refine Hid.out ?_))
      have HX5 := hid (heap_alloc_new w4 (.cells #[.int .i64 Y.ki, .int .i64 Y.co, .int .u64 Y.id, .int .u64 Y.tg, .int .u32 Y.me, .int .i64 Y.si, .int .i64 Y.ty, .int .i64 Y.pr, .int .u64 Y.qt, .int .u64 Y.pe, .int .i64 Y.en] 27))
      have HI6 := hid (row_on HI5.out (ball w4 (.cells #[.int .i64 Y.ki, .int .i64 Y.co, .int .u64 Y.id, .int .u64 Y.tg, .int .u32 Y.me, .int .i64 Y.si, .int .i64 Y.ty, .int .i64 Y.pr, .int .u64 Y.qt, .int .u64 Y.pe, .int .i64 Y.en] 27)))
      have HB5 := hid (btr HB4.out (ball w4 (.cells #[.int .i64 Y.ki, .int .i64 Y.co, .int .u64 Y.id, .int .u64 Y.tg, .int .u32 Y.me, .int .i64 Y.si, .int .i64 Y.ty, .int .i64 Y.pr, .int .u64 Y.qt, .int .u64 Y.pe, .int .i64 Y.en] 27)))
      clear HI4 HI5 HB3 HB4 HF RT IN
      refine hid ?_
      go_wp2_with (first | (go_at_call 8; refine (LI.out _ (HM.out.on HB5.out).laye.lay).mono ?_; rintro e w6 ⟨v6, rfl, hO6, hn6⟩; have HO6 := hid hO6; have HN6 := hid hn6; clear hO6 hn6; refine Hid.out ?_))
      have HX7 := hid (row_on HX5.out HO6.out.2.1)
      have HI7 := hid (row_on HI6.out HO6.out.2.1)
      have HB7 := hid (btr HB5.out HO6.out.2.1)
      obtain ⟨q6, c6, rfl, hS6⟩ := HO6.out.form
      have HS6 := hid hS6
      have HZ7 := HI7.out
      clear hS6 HO6 HX5 HI6 HB5 LI
      by_cases hE0 : E = 0
      · subst hE0
        have EQ2 := hid (fun w h1 h2 => EQ.out q6 (some ⟨bq, oq, none⟩) c6 cap w h1 h2)
        by_cases hq : OUT = l.take n
        · have hqt : (OUT == l.take n) = true := by simpa using hq
          rw [hqt] at EQ2
          rw [if_pos ⟨rfl, hq⟩] at hr
          have HR := hid hr
          clear hr hq hqt EQ
          refine hid ?_
          go_wp2_with (first | (go_at_call 41; refine (EQ2.out _ HS6.out (HTK.out _ HB7.out)).mono ?_; rintro e w' ⟨rfl, rfl⟩) | (refine wpList_load_row (by rfl) 27 (.tmp 11) (by rfl) w4.heap.size (by rfl) 27 #[.int .i64 Y.ki, .int .i64 Y.co, .int .u64 Y.id, .int .u64 Y.tg, .int .u32 Y.me, .int .i64 Y.si, .int .i64 Y.ty, .int .i64 Y.pr, .int .u64 Y.qt, .int .u64 Y.pe, .int .i64 Y.en] (0, 0) _ HX7.out Tryd.underlying27 rfl info27 ?_) | (refine wpList_st (by rfl) 27 (.tmp 2) (.tmp 54) (by rfl) w.heap.size #[.int .i64 Y.ki, .int .i64 Y.co, .int .u64 Y.id, .int .u64 Y.tg, .int .u32 Y.me, .int .i64 Y.si, .int .i64 Y.ty, .int .i64 Y.pr, .int .u64 Y.qt, .int .u64 Y.pe, .int .i64 Y.en] (by rfl) (by rfl) 27 #[.int .i64 0, .int .i64 0, .int .u64 0, .int .u64 0, .int .u32 0, .int .i64 0, .int .i64 0, .int .i64 0, .int .u64 0, .int .u64 0, .int .i64 0] HZ7 info27 rfl (by simp [Value.oneCell']) ?_; intro w8 hst; have HST := hid hst; clear hst; refine Hid.out ?_))
          refine hid ?_
          go_wp2
          exact bodyPost_ret (res27t Tryd.f17 2 3 4 Tryd.results17 _ _ w.heap.size #[.int .i64 Y.ki, .int .i64 Y.co, .int .u64 Y.id, .int .u64 Y.tg, .int .u32 Y.me, .int .i64 Y.si, .int .i64 Y.ty, .int .i64 Y.pr, .int .u64 Y.qt, .int .u64 Y.pe, .int .i64 Y.en] _ _ (by rfl) (by rfl) (by rfl) HST.out.row info27) rfl ⟨by rw [HR.out]; rfl, HST.out.bel _ _ HB7.out (Nat.le_refl _)⟩
        · have hqt : (OUT == l.take n) = false := by simpa using hq
          rw [hqt] at EQ2
          rw [if_neg (fun h => hq h.2)] at hr
          have HR := hid hr
          clear hr hq hqt EQ
          refine hid ?_
          go_wp2_with (first | (go_at_call 41; refine (EQ2.out _ HS6.out (HTK.out _ HB7.out)).mono ?_; rintro e w' ⟨rfl, rfl⟩) | (refine wpList_st (by rfl) 27 (.tmp 2) (.tmp 53) (by rfl) w.heap.size #[.int .i64 0, .int .i64 0, .int .u64 0, .int .u64 0, .int .u32 0, .int .i64 0, .int .i64 0, .int .i64 0, .int .u64 0, .int .u64 0, .int .i64 0] (by rfl) (by rfl) 27 #[.int .i64 0, .int .i64 0, .int .u64 0, .int .u64 0, .int .u32 0, .int .i64 0, .int .i64 0, .int .i64 0, .int .u64 0, .int .u64 0, .int .i64 0] HZ7 info27 rfl (by simp [Value.oneCell']) ?_; intro w8 hst; have HST := hid hst; clear hst; refine Hid.out ?_))
          refine hid ?_
          go_wp2
          exact bodyPost_ret (res27t Tryd.f17 2 3 4 Tryd.results17 _ _ w.heap.size #[.int .i64 0, .int .i64 0, .int .u64 0, .int .u64 0, .int .u32 0, .int .i64 0, .int .i64 0, .int .i64 0, .int .u64 0, .int .u64 0, .int .i64 0] _ _ (by rfl) (by rfl) (by rfl) HST.out.row info27) rfl ⟨by rw [HR.out]; rfl, HST.out.bel _ _ HB7.out (Nat.le_refl _)⟩
      · have hEt : (E != 0) = true := by simpa using hE0
        rw [if_neg (fun h => hE0 h.1)] at hr
        have HR := hid hr
        clear hr hE0 EQ
        refine hid ?_
        go_wp2_with (first | (refine wpList_st (by rfl) 27 (.tmp 2) (.tmp 53) (by rfl) w.heap.size #[.int .i64 0, .int .i64 0, .int .u64 0, .int .u64 0, .int .u32 0, .int .i64 0, .int .i64 0, .int .i64 0, .int .u64 0, .int .u64 0, .int .i64 0] (by rfl) (by rfl) 27 #[.int .i64 0, .int .i64 0, .int .u64 0, .int .u64 0, .int .u32 0, .int .i64 0, .int .i64 0, .int .i64 0, .int .u64 0, .int .u64 0, .int .i64 0] HZ7 info27 rfl (by simp [Value.oneCell']) ?_; intro w8 hst; have HST := hid hst; clear hst; refine Hid.out ?_))
        refine hid ?_
        go_wp2
        exact bodyPost_ret (res27t Tryd.f17 2 3 4 Tryd.results17 _ _ w.heap.size #[.int .i64 0, .int .i64 0, .int .u64 0, .int .u64 0, .int .u32 0, .int .i64 0, .int .i64 0, .int .i64 0, .int .u64 0, .int .u64 0, .int .i64 0] _ _ (by rfl) (by rfl) (by rfl) HST.out.row info27) rfl ⟨by rw [HR.out]; rfl, HST.out.bel _ _ HB7.out (Nat.le_refl _)⟩
  · have hr : rlR l = (zeroI, n, er) := by
      unfold rlR
      rw [hd]
      simp only [ne_eq]
      rw [if_pos he]
    rw [hr]
    simp only
    rw [HZ.out]
    have hne : (er != 0) = true := by simpa using he
    clear hr HD hd he
    go_enter Tryd.func17, Tryd.ntmps17
    go_wp2_with (first | (go_at_call 34; refine (DE.out _ (HS.out.on HB0.out) (HM.out.on HB0.out)).mono ?_; rintro e w2 ⟨v, rfl, hO⟩; have HO := hid hO; clear hO; refine Hid.out ?_))
    have HI2 := row_on HI.out HO.out.2.1
    have HB2 := hid (btr HB0.out HO.out.2.1)
    clear HO DE HI HB0
    refine hid ?_
    go_wp2_with (first | (refine wpList_st (by rfl) 27 (.tmp 2) (.tmp 23) (by rfl) w.heap.size #[.int .i64 0, .int .i64 0, .int .u64 0, .int .u64 0, .int .u32 0, .int .i64 0, .int .i64 0, .int .i64 0, .int .u64 0, .int .u64 0, .int .i64 0] (by rfl) (by rfl) 27 #[.int .i64 0, .int .i64 0, .int .u64 0, .int .u64 0, .int .u32 0, .int .i64 0, .int .i64 0, .int .i64 0, .int .u64 0, .int .u64 0, .int .i64 0] HI2 info27 rfl (by simp [Value.oneCell']) ?_; intro w5 hst; have HST := hid hst; clear hst; refine Hid.out ?_))
    refine hid ?_
    go_wp2
    exact bodyPost_ret (res27t Tryd.f17 2 3 4 Tryd.results17 _ _ w.heap.size #[.int .i64 0, .int .i64 0, .int .u64 0, .int .u64 0, .int .u32 0, .int .i64 0, .int .i64 0, .int .i64 0, .int .u64 0, .int .u64 0, .int .i64 0] _ _ (by rfl) (by rfl) (by rfl) HST.out.row info27) rfl ⟨by simp, HST.out.bel _ _ HB2.out (Nat.le_refl _)⟩

set_option maxHeartbeats 4000000 in
set_option maxRecDepth 100000 in
theorem readE_any (l : List UInt8) (q : Option Addr) (cap : Nat) (w : World) (hl : l.length < 4611686018427387904) (hcap : l.length ≤ cap) (hcm : cap < 9223372036854775808) (hS : Sb w q l) (hM : LayM w) :
    Calls Tryd.prog 19 #[.slice q l.length cap] w fun e w' => e = .returned (.tuple #[.agg (reR l).1.v, .int .i64 ((reR l).2.1 : Nat), .int .i64 (reR l).2.2]) ∧ Below w.heap.size w w' := by
  have HS := hid hS
  have HM := hid hM
  have HI := hid (heap_alloc_new w (.cells zeroE.v 30))
  have HB0 := hid (ball w (.cells zeroE.v 30))
  have DE := hid (fun w hS hM => decode_any l q cap w hl hcap hcm hS hM)
  obtain ⟨kd, tg, n, er, hd⟩ : ∃ a b c d, decR l = (a, b, c, d) := ⟨_, _, _, _, rfl⟩
  have HD := hid hd
  rw [hd] at DE
  simp only at DE
  have HZ := hid (show zeroE.v = #[.int .u64 0, .int .i64 0, .int .u64 0, .int .u64 0, .int .u64 0, .int .u32 0, .int .i64 0, .int .i64 0, .int .i64 0, .int .u64 0, .int .u64 0, .int .i64 0, .int .i64 0] from rfl)
  rw [HZ.out] at HI HB0
  clear hS hM
  by_cases he : er = 0
  · subst he
    obtain ⟨n1, n2, n3, n4⟩ := decR_back hd
    obtain ⟨s1, s2, s3⟩ := line_small n3
    have HS3 := hid s3
    clear hd n3 n4 s3
    cases hk : evK kd tg with
    | none =>
      have hr : reR l = (zeroE, 0, 41) := by
        unfold reR
        rw [HD.out]
        simp only [ne_eq, not_true_eq_false, if_false, hk]
      rw [hr]
      simp only
      rw [HZ.out]
      have IK := hid (fun q cap w hc hm hT hE => eventkind_any kd tg q cap w (by omega) hc hm (fun x hx => by have := HS3.out x hx; omega) hT hE)
      rw [hk] at IK
      clear hr HD
      go_enter Tryd.func19, Tryd.ntmps19
      go_wp2_with (first | (go_at_call 34; refine (DE.out _ (HS.out.on HB0.out) (HM.out.on HB0.out)).mono ?_; rintro e w2 ⟨v, rfl, hO⟩; have HO := hid hO; clear hO; refine Hid.out ?_))
      have HI2 := hid (row_on HI.out HO.out.2.1)
      have HB2 := hid (btr HB0.out HO.out.2.1)
      obtain ⟨ql, cl, rfl, hTl, hcl, hml⟩ := HO.out.form
      have HT := hid hTl
      have HE2 := hid (HM.out.on HB2.out).laye
      clear hTl HO DE HI HB0
      refine hid ?_
      go_wp2_with (first | (go_at_call 44; refine (IK.out _ _ _ hcl hml HT.out HE2.out).mono ?_; rintro e wk ⟨rfl, hbk⟩; have HI2K := hid (row_on HI2.out hbk); have HBK := hid (btr HB2.out hbk); have HTK2 := hid (HT.out.on hbk); have HEK := hid (HE2.out.on hbk); clear hbk; refine Hid.out ?_))
      refine hid ?_
      have HI3 := HI2K.out
      go_wp2_with (first | (refine wpList_st (by rfl) 30 (.tmp 2) (.tmp 34) (by rfl) w.heap.size #[.int .u64 0, .int .i64 0, .int .u64 0, .int .u64 0, .int .u64 0, .int .u32 0, .int .i64 0, .int .i64 0, .int .i64 0, .int .u64 0, .int .u64 0, .int .i64 0, .int .i64 0] (by rfl) (by rfl) 30 #[.int .u64 0, .int .i64 0, .int .u64 0, .int .u64 0, .int .u64 0, .int .u32 0, .int .i64 0, .int .i64 0, .int .i64 0, .int .u64 0, .int .u64 0, .int .i64 0, .int .i64 0] HI3 info39 rfl (by simp [Value.oneCell']) ?_; intro w5 hst; have HST := hid hst; clear hst; refine Hid.out ?_))
      refine hid ?_
      go_wp2
      exact bodyPost_ret (res30t Tryd.f19 2 3 4 Tryd.results19 _ _ w.heap.size #[.int .u64 0, .int .i64 0, .int .u64 0, .int .u64 0, .int .u64 0, .int .u32 0, .int .i64 0, .int .i64 0, .int .i64 0, .int .u64 0, .int .u64 0, .int .i64 0, .int .i64 0] _ _ (by rfl) (by rfl) (by rfl) HST.out.row info39) rfl ⟨by simp, HST.out.bel _ _ HBK.out (Nat.le_refl _)⟩
    | some k =>
      have hkk := evK_rg hk
      have IK := hid (fun q cap w hc hm hT hE => eventkind_any kd tg q cap w (by omega) hc hm (fun x hx => by have := HS3.out x hx; omega) hT hE)
      rw [hk] at IK
      have RT := hid (fun q cap w hT hE => readtags_any k tg q cap w (by omega) (fun x hx => by have := HS3.out x hx; omega) hT hE)
      have IN := hid (fun b n w hF => event_any k b n (only (tagsL k) (nmF tg)) w (by omega) (by omega) hF)
      rw [evtV_rl k tg hkk.1 hkk.2.1] at IN
      have LI := hid (fun w hL => lineE_any (rlE k tg) (rlE_ok k tg).1 w hL)
      obtain ⟨Y, hY⟩ : ∃ y, rlE k tg = y := ⟨_, rfl⟩
      rw [hY] at IN LI
      have htl : (l.take n).length = n := by simp; omega
      have EQ := hid (fun q1 q2 c1 c2 w h1 h2 => equal_any (lnE Y) (l.take n) q1 q2 c1 c2 w h1 h2)
      rw [htl] at EQ
      have hr : reR l = if Y.e = 0 ∧ lnE Y = l.take n then (Y, n, 0) else (zeroE, 0, 40) := by
        unfold reR
        rw [HD.out]
        simp only [ne_eq, not_true_eq_false, if_false, hk]
        rw [hY]
      obtain ⟨OUT, hO⟩ : ∃ y, lnE Y = y := ⟨_, rfl⟩
      rw [hO] at EQ LI hr
      obtain ⟨E, hE⟩ : ∃ y, Y.e = y := ⟨_, rfl⟩
      rw [hE] at LI hr
      have HTK := hid (fun (w' : World) (hb : Below w.heap.size w w') => ((HS.out.on hb).take n))
      obtain ⟨bq, oq, rfl, _⟩ := HS.out 0 (by omega)
      have g3 : (0 : Int) ≤ (n : Int) := by omega
      have g4 : (n : Int) ≤ (cap : Int) := by omega
      clear hk hY HD hO hE hkk
      unfold Evt.v eV at *
      go_enter Tryd.func19, Tryd.ntmps19
      go_wp2_with (first | (go_at_call 34; refine (DE.out _ (HS.out.on HB0.out) (HM.out.on HB0.out)).mono ?_; rintro e w2 ⟨v, rfl, hO⟩; have HO := hid hO; clear hO; refine Hid.out ?_))
      have HI2 := hid (row_on HI.out HO.out.2.1)
      have HB2 := hid (btr HB0.out HO.out.2.1)
      obtain ⟨ql, cl, rfl, hTl, hcl, hml⟩ := HO.out.form
      have HT := hid hTl
      have HE2 := hid (HM.out.on HB2.out).laye
      clear hTl HO DE HI HB0
      refine hid ?_
      go_wp2_with (first | (go_at_call 44; refine (IK.out _ _ _ hcl hml HT.out HE2.out).mono ?_; rintro e wk ⟨rfl, hbk⟩; have HI2K := hid (row_on HI2.out hbk); have HBK := hid (btr HB2.out hbk); have HTK2 := hid (HT.out.on hbk); have HEK := hid (HE2.out.on hbk); clear hbk; refine Hid.out ?_))
      refine hid ?_
      go_wp2_with (first | (go_at_call 40; refine (RT.out _ _ _ HTK2.out HEK.out).mono ?_; rintro e w3 ⟨b, m, rfl, _, _, hF, hb⟩; have HF := hid hF; have HI4 := hid (row_on HI2K.out hb); have HB3 := hid (btr HBK.out hb); clear hF hb; refine Hid.out ?_))
      refine hid ?_
      go_wp2_with (first | (go_at_call 43; refine (IN.out _ _ _ HF.out).mono ?_; rintro e w4 ⟨rfl, hb⟩; have HI5 := hid (row_on HI4.out hb); have HB4 := hid (btr HB3.out hb); clear hb; refine Hid.out ?_))
      have HX5 := hid (heap_alloc_new w4 (.cells #[.int .u64 Y.sq, .int .i64 Y.kd, .int .u64 Y.id, .int .u64 Y.ot, .int .u64 Y.tg, .int .u32 Y.me, .int .i64 Y.si, .int .i64 Y.ty, .int .i64 Y.pr, .int .u64 Y.qt, .int .u64 Y.pe, .int .i64 Y.re, .int .i64 Y.co] 30))
      have HI6 := hid (row_on HI5.out (ball w4 (.cells #[.int .u64 Y.sq, .int .i64 Y.kd, .int .u64 Y.id, .int .u64 Y.ot, .int .u64 Y.tg, .int .u32 Y.me, .int .i64 Y.si, .int .i64 Y.ty, .int .i64 Y.pr, .int .u64 Y.qt, .int .u64 Y.pe, .int .i64 Y.re, .int .i64 Y.co] 30)))
      have HB5 := hid (btr HB4.out (ball w4 (.cells #[.int .u64 Y.sq, .int .i64 Y.kd, .int .u64 Y.id, .int .u64 Y.ot, .int .u64 Y.tg, .int .u32 Y.me, .int .i64 Y.si, .int .i64 Y.ty, .int .i64 Y.pr, .int .u64 Y.qt, .int .u64 Y.pe, .int .i64 Y.re, .int .i64 Y.co] 30)))
      clear HI4 HI5 HB3 HB4 HF RT IN
      refine hid ?_
      go_wp2_with (first | (go_at_call 10; refine (LI.out _ (HM.out.on HB5.out).laye.lay).mono ?_; rintro e w6 ⟨v6, rfl, hO6, hn6⟩; have HO6 := hid hO6; have HN6 := hid hn6; clear hO6 hn6; refine Hid.out ?_))
      have HX7 := hid (row_on HX5.out HO6.out.2.1)
      have HI7 := hid (row_on HI6.out HO6.out.2.1)
      have HB7 := hid (btr HB5.out HO6.out.2.1)
      obtain ⟨q6, c6, rfl, hS6⟩ := HO6.out.form
      have HS6 := hid hS6
      have HZ7 := HI7.out
      clear hS6 HO6 HX5 HI6 HB5 LI
      by_cases hE0 : E = 0
      · subst hE0
        have EQ2 := hid (fun w h1 h2 => EQ.out q6 (some ⟨bq, oq, none⟩) c6 cap w h1 h2)
        by_cases hq : OUT = l.take n
        · have hqt : (OUT == l.take n) = true := by simpa using hq
          rw [hqt] at EQ2
          rw [if_pos ⟨rfl, hq⟩] at hr
          have HR := hid hr
          clear hr hq hqt EQ
          refine hid ?_
          go_wp2_with (first | (go_at_call 41; refine (EQ2.out _ HS6.out (HTK.out _ HB7.out)).mono ?_; rintro e w' ⟨rfl, rfl⟩) | (refine wpList_load_row (by rfl) 30 (.tmp 11) (by rfl) w4.heap.size (by rfl) 30 #[.int .u64 Y.sq, .int .i64 Y.kd, .int .u64 Y.id, .int .u64 Y.ot, .int .u64 Y.tg, .int .u32 Y.me, .int .i64 Y.si, .int .i64 Y.ty, .int .i64 Y.pr, .int .u64 Y.qt, .int .u64 Y.pe, .int .i64 Y.re, .int .i64 Y.co] (0, 0) _ HX7.out Tryd.underlying30 rfl info39 ?_) | (refine wpList_st (by rfl) 30 (.tmp 2) (.tmp 55) (by rfl) w.heap.size #[.int .u64 Y.sq, .int .i64 Y.kd, .int .u64 Y.id, .int .u64 Y.ot, .int .u64 Y.tg, .int .u32 Y.me, .int .i64 Y.si, .int .i64 Y.ty, .int .i64 Y.pr, .int .u64 Y.qt, .int .u64 Y.pe, .int .i64 Y.re, .int .i64 Y.co] (by rfl) (by rfl) 30 #[.int .u64 0, .int .i64 0, .int .u64 0, .int .u64 0, .int .u64 0, .int .u32 0, .int .i64 0, .int .i64 0, .int .i64 0, .int .u64 0, .int .u64 0, .int .i64 0, .int .i64 0] HZ7 info39 rfl (by simp [Value.oneCell']) ?_; intro w8 hst; have HST := hid hst; clear hst; refine Hid.out ?_))
          refine hid ?_
          go_wp2
          exact bodyPost_ret (res30t Tryd.f19 2 3 4 Tryd.results19 _ _ w.heap.size #[.int .u64 Y.sq, .int .i64 Y.kd, .int .u64 Y.id, .int .u64 Y.ot, .int .u64 Y.tg, .int .u32 Y.me, .int .i64 Y.si, .int .i64 Y.ty, .int .i64 Y.pr, .int .u64 Y.qt, .int .u64 Y.pe, .int .i64 Y.re, .int .i64 Y.co] _ _ (by rfl) (by rfl) (by rfl) HST.out.row info39) rfl ⟨by rw [HR.out]; rfl, HST.out.bel _ _ HB7.out (Nat.le_refl _)⟩
        · have hqt : (OUT == l.take n) = false := by simpa using hq
          rw [hqt] at EQ2
          rw [if_neg (fun h => hq h.2)] at hr
          have HR := hid hr
          clear hr hq hqt EQ
          refine hid ?_
          go_wp2_with (first | (go_at_call 41; refine (EQ2.out _ HS6.out (HTK.out _ HB7.out)).mono ?_; rintro e w' ⟨rfl, rfl⟩) | (refine wpList_st (by rfl) 30 (.tmp 2) (.tmp 54) (by rfl) w.heap.size #[.int .u64 0, .int .i64 0, .int .u64 0, .int .u64 0, .int .u64 0, .int .u32 0, .int .i64 0, .int .i64 0, .int .i64 0, .int .u64 0, .int .u64 0, .int .i64 0, .int .i64 0] (by rfl) (by rfl) 30 #[.int .u64 0, .int .i64 0, .int .u64 0, .int .u64 0, .int .u64 0, .int .u32 0, .int .i64 0, .int .i64 0, .int .i64 0, .int .u64 0, .int .u64 0, .int .i64 0, .int .i64 0] HZ7 info39 rfl (by simp [Value.oneCell']) ?_; intro w8 hst; have HST := hid hst; clear hst; refine Hid.out ?_))
          refine hid ?_
          go_wp2
          exact bodyPost_ret (res30t Tryd.f19 2 3 4 Tryd.results19 _ _ w.heap.size #[.int .u64 0, .int .i64 0, .int .u64 0, .int .u64 0, .int .u64 0, .int .u32 0, .int .i64 0, .int .i64 0, .int .i64 0, .int .u64 0, .int .u64 0, .int .i64 0, .int .i64 0] _ _ (by rfl) (by rfl) (by rfl) HST.out.row info39) rfl ⟨by rw [HR.out]; rfl, HST.out.bel _ _ HB7.out (Nat.le_refl _)⟩
      · have hEt : (E != 0) = true := by simpa using hE0
        rw [if_neg (fun h => hE0 h.1)] at hr
        have HR := hid hr
        clear hr hE0 EQ
        refine hid ?_
        go_wp2_with (first | (refine wpList_st (by rfl) 30 (.tmp 2) (.tmp 54) (by rfl) w.heap.size #[.int .u64 0, .int .i64 0, .int .u64 0, .int .u64 0, .int .u64 0, .int .u32 0, .int .i64 0, .int .i64 0, .int .i64 0, .int .u64 0, .int .u64 0, .int .i64 0, .int .i64 0] (by rfl) (by rfl) 30 #[.int .u64 0, .int .i64 0, .int .u64 0, .int .u64 0, .int .u64 0, .int .u32 0, .int .i64 0, .int .i64 0, .int .i64 0, .int .u64 0, .int .u64 0, .int .i64 0, .int .i64 0] HZ7 info39 rfl (by simp [Value.oneCell']) ?_; intro w8 hst; have HST := hid hst; clear hst; refine Hid.out ?_))
        refine hid ?_
        go_wp2
        exact bodyPost_ret (res30t Tryd.f19 2 3 4 Tryd.results19 _ _ w.heap.size #[.int .u64 0, .int .i64 0, .int .u64 0, .int .u64 0, .int .u64 0, .int .u32 0, .int .i64 0, .int .i64 0, .int .i64 0, .int .u64 0, .int .u64 0, .int .i64 0, .int .i64 0] _ _ (by rfl) (by rfl) (by rfl) HST.out.row info39) rfl ⟨by rw [HR.out]; rfl, HST.out.bel _ _ HB7.out (Nat.le_refl _)⟩
  · have hr : reR l = (zeroE, n, er) := by
      unfold reR
      rw [hd]
      simp only [ne_eq]
      rw [if_pos he]
    rw [hr]
    simp only
    rw [HZ.out]
    have hne : (er != 0) = true := by simpa using he
    clear hr HD hd he
    go_enter Tryd.func19, Tryd.ntmps19
    go_wp2_with (first | (go_at_call 34; refine (DE.out _ (HS.out.on HB0.out) (HM.out.on HB0.out)).mono ?_; rintro e w2 ⟨v, rfl, hO⟩; have HO := hid hO; clear hO; refine Hid.out ?_))
    have HI2 := row_on HI.out HO.out.2.1
    have HB2 := hid (btr HB0.out HO.out.2.1)
    clear HO DE HI HB0
    refine hid ?_
    go_wp2_with (first | (refine wpList_st (by rfl) 30 (.tmp 2) (.tmp 23) (by rfl) w.heap.size #[.int .u64 0, .int .i64 0, .int .u64 0, .int .u64 0, .int .u64 0, .int .u32 0, .int .i64 0, .int .i64 0, .int .i64 0, .int .u64 0, .int .u64 0, .int .i64 0, .int .i64 0] (by rfl) (by rfl) 30 #[.int .u64 0, .int .i64 0, .int .u64 0, .int .u64 0, .int .u64 0, .int .u32 0, .int .i64 0, .int .i64 0, .int .i64 0, .int .u64 0, .int .u64 0, .int .i64 0, .int .i64 0] HI2 info39 rfl (by simp [Value.oneCell']) ?_; intro w5 hst; have HST := hid hst; clear hst; refine Hid.out ?_))
    refine hid ?_
    go_wp2
    exact bodyPost_ret (res30t Tryd.f19 2 3 4 Tryd.results19 _ _ w.heap.size #[.int .u64 0, .int .i64 0, .int .u64 0, .int .u64 0, .int .u64 0, .int .u32 0, .int .i64 0, .int .i64 0, .int .i64 0, .int .u64 0, .int .u64 0, .int .i64 0, .int .i64 0] _ _ (by rfl) (by rfl) (by rfl) HST.out.row info39) rfl ⟨by simp, HST.out.bel _ _ HB2.out (Nat.le_refl _)⟩
end Go.Proofs.YtacdjioieclggaaDoor.Msg
namespace Go.Proofs.YtacdjioieclggaaDoor.Msg
open Go.RowKit Go.Maps Go.Deep Go.Lib
set_option linter.unusedVariables false
set_option linter.unusedSimpArgs false
def X1 : Inp := ⟨1, 1, 7, 0, 3, 1, 1, 100, 5, 0, 0⟩
def X2 : Inp := ⟨3, 0, 0, 0, 0, 0, 0, 0, 0, 0, 0⟩
def X3 : Inp := ⟨1, 2, 0, 7, 0, 0, 0, 0, 0, 0, 0⟩
theorem x1_is : X1.e = 0 ∧ X1.pk = 1 ∧ X1.pw = [7, 0, 1103806595075, 100, 5, 0, 0] := by decide +kernel
theorem x2_is : X2.e = 41 ∧ X2.pk = 0 ∧ X2.pw = [0, 0, 0, 0, 0, 0, 0] := by decide +kernel
theorem x3_is : X3.e = 0 ∧ X3.k = 2 ∧ X3.F 41 = 7 := by decide +kernel
theorem x1_ok : X1.Ok := ⟨by unfold X1 Wd; decide, by unfold X1 Wd; decide, by unfold X1; decide, by unfold X1 Wd; decide, by unfold X1 Wd; decide⟩
theorem x2_ok : X2.Ok := ⟨by unfold X2 Wd; decide, by unfold X2 Wd; decide, by unfold X2; decide, by unfold X2 Wd; decide, by unfold X2 Wd; decide⟩
theorem x3_ok : X3.Ok := ⟨by unfold X3 Wd; decide, by unfold X3 Wd; decide, by unfold X3; decide, by unfold X3 Wd; decide, by unfold X3 Wd; decide⟩
theorem x3_t : lnT X3 = [(41, [55])] := by
  unfold lnT
  rw [x3_is.2.1]
  have e : tagT 2 X3.F 41 = [(41, [55])] := by
    unfold tagT
    rw [x3_is.2.2, if_neg (by decide), show Int.toNat 7 = 7 from rfl, decDigits_one (by decide)]
    rfl
  simp [ltL, tagsL, e]
theorem x3_line : decR (lnB X3) = ([70], [(41, [55])], (lnB X3).length, 0) ∧ 0 < (lnB X3).length ∧ (lnB X3).length ≤ 2048 := by
  have h := enc_inp X3 x3_ok x3_is.1
  have hb : lnB X3 = lineB (lineK X3.k) (lnT X3) := by unfold lnB; rw [if_pos x3_is.1]
  have hk : lineK X3.k = [70] := by rw [x3_is.2.1]; rfl
  have h2 := decR_line (lineK X3.k) (lnT X3) [] h
  rw [List.append_nil, ← hb, hk, x3_t] at h2
  refine ⟨h2, ?_, ?_⟩
  · rw [hb, lineB_len]; omega
  · rw [hb]
    unfold encE at h
    repeat' split at h
    all_goals first | omega | (simp at h; done) | skip
    all_goals (rename_i h9; simp_all)
theorem eqTag (w : World) : (Op.equalIn 10000 76 (.agg #[.int .i64 41, .string ⟨#[55]⟩]) (.agg #[.int .i64 41, .string ⟨#[55]⟩])).run Tryd.prog w = .ok true w := by kernel_rfl
theorem eqWords (w : World) : (Op.equalIn 10000 38 (.agg #[.int .u64 7, .int .u64 0, .int .u64 1103806595075, .int .u64 100, .int .u64 5, .int .u64 0, .int .u64 0]) (.agg #[.int .u64 7, .int .u64 0, .int .u64 1103806595075, .int .u64 100, .int .u64 5, .int .u64 0, .int .u64 0])).run Tryd.prog w = .ok true w := by kernel_rfl
theorem ts_tag {w : World} {q : Option Addr} {t : Int} {v : List UInt8} (h : Ts w q [(t, v)]) : ∃ b o, q = some ⟨b, o, none⟩ ∧ w.cell? ⟨b, o, none⟩ = some (.int .i64 t) ∧ w.cell? ⟨b, o + 1, none⟩ = some (.string ⟨v.toArray⟩) := by
  obtain ⟨b, o, e, h0, h1⟩ := h 0 (by simp)
  exact ⟨b, o, e, by simpa using h0, by simpa using h1⟩
set_option maxHeartbeats 4000000 in
set_option maxRecDepth 100000 in
theorem lives_any (w : World) (hM : LayM w) : Calls Tryd.prog 13 #[] w fun e w' => e = .returned (.bool true) ∧ Below w.heap.size w w' := by
  have HM := hid hM
  have P1 := hid (fun w => pack_any X1 x1_ok w)
  rw [x1_is.1, x1_is.2.1, x1_is.2.2] at P1
  have P2 := hid (fun w => pack_any X2 x2_ok w)
  rw [x2_is.1, x2_is.2.1, x2_is.2.2] at P2
  have L3 := hid (fun w hL => lineI_any X3 x3_ok w hL)
  rw [x3_is.1] at L3
  have DE := hid (fun q cap w hc hm hS hM => decode_any (lnB X3) q cap w (by have := x3_line.2.2; omega) hc hm hS hM)
  rw [x3_line.1] at DE
  simp only at DE
  have hlp := x3_line.2.1
  obtain ⟨LB, hLB⟩ : ∃ y, lnB X3 = y := ⟨_, rfl⟩
  rw [hLB] at L3 DE hlp
  have e1 : X1.v = #[.int .i64 1, .int .i64 1, .int .u64 7, .int .u64 0, .int .u32 3, .int .i64 1, .int .i64 1, .int .i64 100, .int .u64 5, .int .u64 0, .int .i64 0] := rfl
  have e2 : X2.v = #[.int .i64 3, .int .i64 0, .int .u64 0, .int .u64 0, .int .u32 0, .int .i64 0, .int .i64 0, .int .i64 0, .int .u64 0, .int .u64 0, .int .i64 0] := rfl
  have e3 : X3.v = #[.int .i64 1, .int .i64 2, .int .u64 0, .int .u64 7, .int .u32 0, .int .i64 0, .int .i64 0, .int .i64 0, .int .u64 0, .int .u64 0, .int .i64 0] := rfl
  have f1 : frV 1 [7, 0, 1103806595075, 100, 5, 0, 0] = #[.int .u8 1, .int .u64 7, .int .u64 0, .int .u64 1103806595075, .int .u64 100, .int .u64 5, .int .u64 0, .int .u64 0] := rfl
  have f2 : frV 0 [0, 0, 0, 0, 0, 0, 0] = #[.int .u8 0, .int .u64 0, .int .u64 0, .int .u64 0, .int .u64 0, .int .u64 0, .int .u64 0, .int .u64 0] := rfl
  rw [e1, f1] at P1
  rw [e2, f2] at P2
  rw [e3] at L3
  have q1 := eqTag
  have q2 := eqWords
  clear hLB hM e1 e2 e3 f1 f2
  go_enter Tryd.func13, Tryd.ntmps13
  go_wp2_with (first | (go_at_call 14; refine (P1.out _).mono ?_; rintro e w2 ⟨rfl, hb⟩; have HB2 := hid (btr (ball _ _) hb); clear hb; refine Hid.out ?_))
  have HR := hid (heap_alloc_new w2 (.cells (frV 1 [7, 0, 1103806595075, 100, 5, 0, 0]) 40))
  have HB3 := hid (btr HB2.out (ball w2 (.cells (frV 1 [7, 0, 1103806595075, 100, 5, 0, 0]) 40)))
  clear P1 HB2
  refine hid ?_
  go_wp2_with (first | (go_at_call 14; refine (P2.out _).mono ?_; rintro e w3 ⟨rfl, hb⟩; have HR3 := hid (row_on HR.out hb); have HB4 := hid (btr HB3.out hb); clear hb; refine Hid.out ?_))
  have HR4 := hid (row_on HR3.out (ball w3 (.cells (frV 0 [0, 0, 0, 0, 0, 0, 0]) 40)))
  have HB5 := hid (btr HB4.out (ball w3 (.cells (frV 0 [0, 0, 0, 0, 0, 0, 0]) 40)))
  clear P2 HR HB3 HR3 HB4
  refine hid ?_
  go_wp2_with (first | (go_at_call 8; refine (L3.out _ (HM.out.on HB5.out).laye.lay).mono ?_; rintro e w5 ⟨v, rfl, hO, hn⟩; have HO := hid hO; clear hO hn; refine Hid.out ?_))
  have HR5 := hid (row_on HR4.out HO.out.2.1)
  have HB6 := hid (btr HB5.out HO.out.2.1)
  obtain ⟨q, cap, rfl, hS, hc, hm⟩ := own_cap HO.out
  have HS := hid hS
  clear L3 HR4 HB5 hS HO
  refine hid ?_
  go_wp2_with (first | (go_at_call 34; refine (DE.out _ _ _ hc hm HS.out (HM.out.on HB6.out)).mono ?_; rintro e w6 ⟨v6, rfl, hO⟩; have HO := hid hO; clear hO; refine Hid.out ?_))
  have HR6 := hid (row_on HR5.out HO.out.2.1)
  have HB7 := hid (btr HB6.out HO.out.2.1)
  obtain ⟨q6, c6, rfl, hT6, hc6, hm6⟩ := HO.out.form
  obtain ⟨tb, to, rfl, t0, t1⟩ := ts_tag hT6
  obtain ⟨c0, c1, c2, c3, c4, c5, c6, c7⟩ := cells_F HR6.out
  clear DE HS HR5 HB6 HO hT6 hc6 hm6
  refine hid ?_
  go_wp2
  go_ret
  exact ⟨by simp, HB7.out⟩
end Go.Proofs.YtacdjioieclggaaDoor.Msg
namespace Go.Proofs.YtacdjioieclggaaDoor.Msg
open Go.RowKit Go.Maps Go.Deep Go.Lib
set_option linter.unusedVariables false
set_option linter.unusedSimpArgs false
set_option maxRecDepth 100000
attribute [local go_sem ↓] Go.wp_at_zero Go.wp_at_succ
structure UnE (w : World) (k : Int) (l : List Int) (q : Option Addr) (L : List Int) (A j : Nat) (wr : World) : Prop where
  r0 : wr.heap[w.heap.size]? = some (.cells (frV k l) 40 (0, 0))
  z : wr.heap[w.heap.size + 1]? = some (.cells zeroE.v 30 (0, 0))
  a : wr.heap[A]? = some (.cells (agnG (rdG k l) (k - 64) (L.take j)).v 30 (0, 0))
  s : Sf wr q k L
  bel : Below w.heap.size w wr
theorem UnE.cells {w wr : World} {k a0 a1 a2 a3 a4 a5 a6 : Int} {l : List Int} {qb qo : Nat} {L : List Int} {A j : Nat} {t : Int} (h : UnE w k l (some ⟨qb, qo, none⟩) L A j wr) (hl : [a0, a1, a2, a3, a4, a5, a6] = l) (hj : j < L.length) (ht : L[j] = t) : wr.cell? ⟨qb, qo + j * 4, none⟩ = some (.int .i64 t) ∧ wr.cell? ⟨qb, qo + j * 4 + 1, none⟩ = some (.int .u64 (most t)) ∧ wr.cell? ⟨qb, qo + j * 4 + 2, none⟩ = some (.int .i64 (plW k t)) ∧ wr.cell? ⟨qb, qo + j * 4 + 3, none⟩ = some (.int .i64 (plB t)) ∧ wr.cell? ⟨w.heap.size, 0, none⟩ = some (.int .u8 k) ∧ wr.cell? ⟨w.heap.size, 1, none⟩ = some (.int .u64 a0) ∧ wr.cell? ⟨w.heap.size, 2, none⟩ = some (.int .u64 a1) ∧ wr.cell? ⟨w.heap.size, 3, none⟩ = some (.int .u64 a2) ∧ wr.cell? ⟨w.heap.size, 4, none⟩ = some (.int .u64 a3) ∧ wr.cell? ⟨w.heap.size, 5, none⟩ = some (.int .u64 a4) ∧ wr.cell? ⟨w.heap.size, 6, none⟩ = some (.int .u64 a5) ∧ wr.cell? ⟨w.heap.size, 7, none⟩ = some (.int .u64 a6) := by
  obtain ⟨b, o, e, f0, f1, f2, f3⟩ := h.s j hj
  obtain ⟨rfl, rfl⟩ := addr_inj e
  have hr := h.r0
  rw [← hl] at hr
  obtain ⟨d0, d1, d2, d3, d4, d5, d6, d7⟩ := cells_F hr
  rw [ht] at f0 f1 f2 f3
  exact ⟨f0, f1, f2, f3, d0, d1, d2, d3, d4, d5, d6, d7⟩
end Go.Proofs.YtacdjioieclggaaDoor.Msg
namespace Go.Proofs.YtacdjioieclggaaDoor.Msg
open Go.ChangeShapes Go.WideShapes Go.ChangeAt Go.RowKit Go.Joins
set_option linter.unusedVariables false
set_option linter.unusedSimpArgs false
set_option maxRecDepth 100000
theorem own : ownKnob Tryd.prog.godebug = none := by kernel_rfl
theorem laidOut : laidOutB Tryd.prog = true := by kernel_rfl
theorem cells27 : Tryd.prog.cellsOf 27 = 11 := by kernel_rfl
theorem cells25 : Tryd.prog.cellsOf 25 = 9 := by kernel_rfl
theorem cells39 : Tryd.prog.cellsOf 30 = 13 := by kernel_rfl
theorem cells30 : Tryd.prog.cellsOf 40 = 8 := by kernel_rfl
theorem cells28 : Tryd.prog.cellsOf 38 = 7 := by kernel_rfl
theorem cells3 : Tryd.prog.cellsOf 3 = 1 := by kernel_rfl
theorem cells5 : Tryd.prog.cellsOf 5 = 1 := by kernel_rfl
theorem cells22 : Tryd.prog.cellsOf 22 = 1 := by kernel_rfl
theorem cells23 : Tryd.prog.cellsOf 23 = 1 := by kernel_rfl
theorem cells31 : Tryd.prog.cellsOf 28 = 1 := by kernel_rfl
section
variable {H : Type} {enc : TypeId × Value → H} {W : World} {base b0 : Nat} {spare : Nat → Bool} {held : Bool} {r : Reach}
theorem open_cmd {n : Nat} {c1 c2 c3 c4 c5 c6 c7 c8 c9 : Value} {y : DataW H × List MemPlace} (h : DataW.trod enc Tryd.prog W base spare held n 25 [c1, c2, c3, c4, c5, c6, c7, c8, c9] = some y) :
    ∃ a1 a2 a3 a4 a5 a6 a7 a8 a9 : Int, c1 = .int .i64 a1 ∧ c2 = .int .u64 a2 ∧ c3 = .int .u64 a3 ∧ c4 = .int .u32 a4 ∧ c5 = .int .i64 a5 ∧ c6 = .int .i64 a6 ∧ c7 = .int .i64 a7 ∧ c8 = .int .u64 a8 ∧ c9 = .int .u64 a9 ∧
      (Lit.int .i64 a1).wf = true ∧ (Lit.int .u64 a2).wf = true ∧ (Lit.int .u64 a3).wf = true ∧ (Lit.int .u32 a4).wf = true ∧ (Lit.int .i64 a5).wf = true ∧ (Lit.int .i64 a6).wf = true ∧ (Lit.int .i64 a7).wf = true ∧ (Lit.int .u64 a8).wf = true ∧ (Lit.int .u64 a9).wf = true := by
  obtain ⟨xs, m, _, _, _, hlen, hf⟩ := DataW.trod_struct Tryd.underlying25 h
  have g0 : DataW.trod enc Tryd.prog W base spare held m 3 (([c1, c2, c3, c4, c5, c6, c7, c8, c9].drop 0).take (Tryd.prog.cellsOf 3)) = xs[0]? := hf 0 _ rfl
  rw [List.getElem?_eq_getElem (by rw [hlen]; exact (by decide : 0 < 9)), cells3] at g0
  simp only [List.drop_zero, List.take_succ_cons, List.take_zero, List.drop_succ_cons] at g0
  obtain ⟨a1, e1, _, wf1⟩ := DataW.trod_int Tryd.underlying3 g0
  have g1 : DataW.trod enc Tryd.prog W base spare held m 22 (([c1, c2, c3, c4, c5, c6, c7, c8, c9].drop 1).take (Tryd.prog.cellsOf 22)) = xs[1]? := hf 1 _ rfl
  rw [List.getElem?_eq_getElem (by rw [hlen]; exact (by decide : 1 < 9)), cells22] at g1
  simp only [List.drop_zero, List.take_succ_cons, List.take_zero, List.drop_succ_cons] at g1
  obtain ⟨a2, e2, _, wf2⟩ := DataW.trod_int Tryd.underlying22 g1
  have g2 : DataW.trod enc Tryd.prog W base spare held m 22 (([c1, c2, c3, c4, c5, c6, c7, c8, c9].drop 2).take (Tryd.prog.cellsOf 22)) = xs[2]? := hf 2 _ rfl
  rw [List.getElem?_eq_getElem (by rw [hlen]; exact (by decide : 2 < 9)), cells22] at g2
  simp only [List.drop_zero, List.take_succ_cons, List.take_zero, List.drop_succ_cons] at g2
  obtain ⟨a3, e3, _, wf3⟩ := DataW.trod_int Tryd.underlying22 g2
  have g3 : DataW.trod enc Tryd.prog W base spare held m 23 (([c1, c2, c3, c4, c5, c6, c7, c8, c9].drop 3).take (Tryd.prog.cellsOf 23)) = xs[3]? := hf 3 _ rfl
  rw [List.getElem?_eq_getElem (by rw [hlen]; exact (by decide : 3 < 9)), cells23] at g3
  simp only [List.drop_zero, List.take_succ_cons, List.take_zero, List.drop_succ_cons] at g3
  obtain ⟨a4, e4, _, wf4⟩ := DataW.trod_int Tryd.underlying23 g3
  have g4 : DataW.trod enc Tryd.prog W base spare held m 3 (([c1, c2, c3, c4, c5, c6, c7, c8, c9].drop 4).take (Tryd.prog.cellsOf 3)) = xs[4]? := hf 4 _ rfl
  rw [List.getElem?_eq_getElem (by rw [hlen]; exact (by decide : 4 < 9)), cells3] at g4
  simp only [List.drop_zero, List.take_succ_cons, List.take_zero, List.drop_succ_cons] at g4
  obtain ⟨a5, e5, _, wf5⟩ := DataW.trod_int Tryd.underlying3 g4
  have g5 : DataW.trod enc Tryd.prog W base spare held m 3 (([c1, c2, c3, c4, c5, c6, c7, c8, c9].drop 5).take (Tryd.prog.cellsOf 3)) = xs[5]? := hf 5 _ rfl
  rw [List.getElem?_eq_getElem (by rw [hlen]; exact (by decide : 5 < 9)), cells3] at g5
  simp only [List.drop_zero, List.take_succ_cons, List.take_zero, List.drop_succ_cons] at g5
  obtain ⟨a6, e6, _, wf6⟩ := DataW.trod_int Tryd.underlying3 g5
  have g6 : DataW.trod enc Tryd.prog W base spare held m 3 (([c1, c2, c3, c4, c5, c6, c7, c8, c9].drop 6).take (Tryd.prog.cellsOf 3)) = xs[6]? := hf 6 _ rfl
  rw [List.getElem?_eq_getElem (by rw [hlen]; exact (by decide : 6 < 9)), cells3] at g6
  simp only [List.drop_zero, List.take_succ_cons, List.take_zero, List.drop_succ_cons] at g6
  obtain ⟨a7, e7, _, wf7⟩ := DataW.trod_int Tryd.underlying3 g6
  have g7 : DataW.trod enc Tryd.prog W base spare held m 22 (([c1, c2, c3, c4, c5, c6, c7, c8, c9].drop 7).take (Tryd.prog.cellsOf 22)) = xs[7]? := hf 7 _ rfl
  rw [List.getElem?_eq_getElem (by rw [hlen]; exact (by decide : 7 < 9)), cells22] at g7
  simp only [List.drop_zero, List.take_succ_cons, List.take_zero, List.drop_succ_cons] at g7
  obtain ⟨a8, e8, _, wf8⟩ := DataW.trod_int Tryd.underlying22 g7
  have g8 : DataW.trod enc Tryd.prog W base spare held m 22 (([c1, c2, c3, c4, c5, c6, c7, c8, c9].drop 8).take (Tryd.prog.cellsOf 22)) = xs[8]? := hf 8 _ rfl
  rw [List.getElem?_eq_getElem (by rw [hlen]; exact (by decide : 8 < 9)), cells22] at g8
  simp only [List.drop_zero, List.take_succ_cons, List.take_zero, List.drop_succ_cons] at g8
  obtain ⟨a9, e9, _, wf9⟩ := DataW.trod_int Tryd.underlying22 g8

  simp at e1 e2 e3 e4 e5 e6 e7 e8 e9
  exact ⟨a1, a2, a3, a4, a5, a6, a7, a8, a9, e1, e2, e3, e4, e5, e6, e7, e8, e9, wf1, wf2, wf3, wf4, wf5, wf6, wf7, wf8, wf9⟩
theorem open_inp {v : Value} {d : DataW H} {p : List MemPlace} (hv : Value.okWide Tryd.prog W r b0 27 v) (h : DataW.Trod enc Tryd.prog W base spare held 27 v d p) :
    ∃ x : Inp, v = .agg x.v ∧ x.Ok ∧ x.Rg := by
  obtain ⟨cs, rfl, hsz⟩ := okWide_struct Tryd.underlying27 hv
  rw [cells27] at hsz
  obtain ⟨fuel, hf⟩ := h
  obtain ⟨y0, y1, y2, n, hx, _, h0, h1, h2⟩ := Deep.trod_struct3 Tryd.underlying27 hf
  obtain ⟨l⟩ := cs
  match l, hsz with
  | [c0, c1, c2, c3, c4, c5, c6, c7, c8, c9, c10], _ =>
    simp only [Value.cells, cells3, cells25, List.drop_zero, List.take_succ_cons, List.take_zero, List.drop_succ_cons] at h0 h1 h2
    obtain ⟨a0, e0, _, w0⟩ := DataW.trod_int Tryd.underlying3 h0
    obtain ⟨a10, e10, _, w10⟩ := DataW.trod_int Tryd.underlying3 h2
    obtain ⟨a1, a2, a3, a4, a5, a6, a7, a8, a9, e1, e2, e3, e4, e5, e6, e7, e8, e9, w1, w2, w3, w4, w5, w6, w7, w8, w9⟩ := open_cmd h1
    simp at e0 e10
    subst e0 e1 e2 e3 e4 e5 e6 e7 e8 e9 e10
    have b2 := bounds_u64 w2
    have b3 := bounds_u64 w3
    have b4 := bounds_u32 w4
    have b5 := bounds_i64 w5
    have b6 := bounds_i64 w6
    have b7 := bounds_i64 w7
    have b8 := bounds_u64 w8
    have b9 := bounds_u64 w9
    have b10 := bounds_i64 w10
    exact ⟨⟨a0, a1, a2, a3, a4, a5, a6, a7, a8, a9, a10⟩, rfl, ⟨⟨b2.1, by simp; omega⟩, ⟨b3.1, by simp; omega⟩, ⟨b4.1, by simp; omega⟩, ⟨b8.1, by simp; omega⟩, ⟨b9.1, by simp; omega⟩⟩, ⟨⟨b5.1, by simp; omega⟩, ⟨b6.1, by simp; omega⟩, ⟨b7.1, by simp; omega⟩, ⟨b10.1, by simp; omega⟩⟩⟩
end
end Go.Proofs.YtacdjioieclggaaDoor.Msg
namespace Go.Proofs.YtacdjioieclggaaDoor.Msg
open Go.ChangeShapes Go.WideShapes Go.ChangeAt Go.RowKit Go.Joins Go.Maps Go.Deep Go.Lib
set_option linter.unusedVariables false
set_option linter.unusedSimpArgs false
set_option maxRecDepth 100000
section
variable {H : Type} {enc : TypeId × Value → H} {W : World} {base b0 : Nat} {spare : Nat → Bool} {held : Bool} {r : Reach}
/-- a frame that came in. -/
theorem open_frm {v : Value} {d : DataW H} {p : List MemPlace} (hv : Value.okWide Tryd.prog W r b0 40 v) (h : DataW.Trod enc Tryd.prog W base spare held 40 v d p) :
    ∃ k a0 a1 a2 a3 a4 a5 a6 : Int, v = .agg (frV k [a0, a1, a2, a3, a4, a5, a6]) ∧ (0 ≤ k ∧ k < 256) ∧ ∀ x ∈ [a0, a1, a2, a3, a4, a5, a6], Wd x := by
  obtain ⟨cs, rfl, hsz⟩ := okWide_struct Tryd.underlying40 hv
  rw [cells30] at hsz
  obtain ⟨fuel, hf⟩ := h
  obtain ⟨y0, y1, n, hx, _, h0, h1⟩ := trod_struct2 Tryd.underlying40 hf
  obtain ⟨l⟩ := cs
  match l, hsz with
  | [c0, c1, c2, c3, c4, c5, c6, c7], _ =>
    simp only [Value.cells, cells5, cells28, List.drop_zero, List.take_succ_cons, List.take_zero, List.drop_succ_cons] at h0 h1
    obtain ⟨k, e0, _, wk⟩ := DataW.trod_int Tryd.underlying5 h0
    obtain ⟨xs, m, _, _, _, hn, hel⟩ := DataW.trod_array Tryd.underlying38 h1
    have g : ∀ i, i < 7 → ∃ n : Int, (([c1, c2, c3, c4, c5, c6, c7].drop i).take 1) = [.int .u64 n] ∧ Wd n := by
      intro i hi
      have hh := hel i hi
      rw [cells22, List.getElem?_eq_getElem (by omega), Nat.mul_one] at hh
      obtain ⟨a, ea, _, wa⟩ := DataW.trod_int Tryd.underlying22 hh
      have := bounds_u64 wa
      exact ⟨a, ea, by unfold Wd; omega⟩
    obtain ⟨w0, e1, b1⟩ := g 0 (by decide)
    obtain ⟨w1, e2, b2⟩ := g 1 (by decide)
    obtain ⟨w2, e3, b3⟩ := g 2 (by decide)
    obtain ⟨w3, e4, b4⟩ := g 3 (by decide)
    obtain ⟨w4, e5, b5⟩ := g 4 (by decide)
    obtain ⟨w5, e6, b6⟩ := g 5 (by decide)
    obtain ⟨w6, e7, b7⟩ := g 6 (by decide)
    have bk := bounds_u8 wk
    simp at e0 e1 e2 e3 e4 e5 e6 e7
    subst e0 e1 e2 e3 e4 e5 e6 e7
    refine ⟨k, w0, w1, w2, w3, w4, w5, w6, rfl, ⟨by omega, by omega⟩, ?_⟩
    intro x hx
    simp only [List.mem_cons, List.not_mem_nil, or_false] at hx
    rcases hx with rfl | rfl | rfl | rfl | rfl | rfl | rfl <;> assumption
end
end Go.Proofs.YtacdjioieclggaaDoor.Msg
