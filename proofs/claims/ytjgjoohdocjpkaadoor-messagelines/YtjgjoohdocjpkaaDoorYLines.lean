/-
  Lines.
-/
import Derived.Test.YtjgjoohdocjpkaaDoorYc
namespace Go.Proofs.YtjgjoohdocjpkaaDoor.Msg
open Go.RowKit Go.Maps Go.Deep Go.Lib
set_option linter.unusedVariables false
set_option linter.unusedSimpArgs false
theorem step_own_tag {ops : Array Oper} {o : Oper} {a : Act} {K : Act → World → Prop} {Q : Exit → Act → World → Prop} {E : Prop} (hgd : o.guard = none) (sl x : Operand)
    (ho : o.op = .call { callee := .builtin .append, args := #[sl, x], argTypes := #[71, 71] }) (B : Nat) (v : Value) (l : List (Int × List UInt8)) (hs : a.eval sl = v) (W0 w0 : World) (t : Int) (s : List UInt8) (hb0 : OwnT B W0 w0 v l) (hx : a.eval x = .slice (some ⟨w0.heap.size, 0, none⟩) 1 1) (hlen : l.length ≤ 1000)
    (h : ∀ v' w', OwnT B W0 w' v' (l ++ [(t, s)]) → K (a.put o.dst v') w') : if Region.wanted o (yielded ops a.tmps) = true then Oper.wp Tryd.prog o a (w0.alloc (.cells #[.int .i64 t, .string ⟨s.toArray⟩] 76)) K Q else E := by
  have hw : Region.wanted o (yielded ops a.tmps) = true := by simp [Region.wanted, hgd]
  rw [if_pos hw]
  obtain ⟨i0, hi, hz0, hz1, hz2⟩ := info_parts info28all
  have hb' : OwnT B W0 (w0.alloc (.cells #[.int .i64 t, .string ⟨s.toArray⟩] 76)) v l := hb0.on (ball _ _)
  refine wp_append_own _ sl x 71 ho B 76 i0 _ 2 24 Tryd.underlying71 hi hz0 hz1 hz2 rfl (by decide) v l.length _ hs hb'.1 ⟨w0.heap.size, 0, none⟩ 1 1 (tv [(t, s)]) hx rfl ?_ (tv_one _) (by unfold maxLen; omega) (by omega) hb'.2.2 ?_
  · intro j u hj
    rw [Addr.add_mid, Nat.zero_add, World.cell?_alloc_new]
    simpa [tv] using hj
  · intro v' w' ho' hg _
    refine h v' w' ⟨?_, hb'.2.1.grown hg hb'.2.2 (fun k hk => (hb'.1.lt k hk).1), Nat.le_trans hb'.2.2 hg.size⟩
    rw [tv_append, List.length_append]
    exact ho'
theorem info78 : (Tryd.prog.info? 78).map (·.size) = some 5 := by kernel_rfl
theorem letters_any (w : World) : Calls Tryd.prog 30 #[] w fun e w' => e = .returned (.agg #[.string ⟨#[]⟩, .string ⟨#[68]⟩, .string ⟨#[70]⟩, .string ⟨#[71]⟩, .string ⟨#[85, 69]⟩]) ∧ Below w.heap.size w w' := by
  go_enter Tryd.func30, Tryd.ntmps30
  go_wp2
  exact bodyPost_ret (results_cell_row (fn := Tryd.f30) Tryd.results30 _ _ w.heap.size 78 #[.string ⟨#[]⟩, .string ⟨#[68]⟩, .string ⟨#[70]⟩, .string ⟨#[71]⟩, .string ⟨#[85, 69]⟩] (0, 0) _ (by rfl) (heap_alloc_new _ _) Tryd.underlying78 rfl info78) rfl ⟨rfl, ball _ _⟩
theorem index5 (a : Array Value) (i : Nat) (v : Value) (w : World) (hi : i < 5) (hv : a[i]? = some v) : (Instr.index 78 (.agg a) (.int .i64 (i : Int))).run Tryd.prog w = .ok v w := by
  have u78 := Tryd.underlying78
  have a9 := Tryd.isAgg9
  have z9 := Tryd.sizeOf9
  simp [Instr.index, asIntOf, run_underlying u78, part, a9, z9, hv, hi, Sem.run_bind, Result.andThen]
theorem letter_at (k : Int) (h1 : 1 ≤ k) (h4 : k ≤ 4) (w : World) : (Instr.index 78 (.agg #[.string ⟨#[]⟩, .string ⟨#[68]⟩, .string ⟨#[70]⟩, .string ⟨#[71]⟩, .string ⟨#[85, 69]⟩]) (.int .i64 k)).run Tryd.prog w = .ok (.string ⟨(lineK k).toArray⟩) w := by
  obtain rfl | rfl | rfl | rfl : k = 1 ∨ k = 2 ∨ k = 3 ∨ k = 4 := by omega
  · exact index5 _ 1 _ w (by decide) rfl
  · exact index5 _ 2 _ w (by decide) rfl
  · exact index5 _ 3 _ w (by decide) rfl
  · exact index5 _ 4 _ w (by decide) rfl
theorem rdec_call (x : Int) (hx : Wd x) (w : World) : Calls Tryd.prog 28 #[.int .u64 x] w fun e w' => e = .returned (.string ⟨(decDigits x.toNat).toArray⟩) ∧ Below w.heap.size w w' := by
  unfold Wd at hx
  have h := rdecimal_any x.toNat (by omega) w
  rw [show ((x.toNat : Nat) : Int) = x by omega] at h
  exact h
theorem lt_only (k : Int) (f : Int → Int) : ltL k (only (tagsL k) f) (tagsL k) = ltL k f (tagsL k) := by
  have h : ∀ L : List Int, (∀ t ∈ L, t ∈ tagsL k) → L.flatMap (tagT k (only (tagsL k) f)) = L.flatMap (tagT k f) := by
    intro L
    induction L with
    | nil => intro _; rfl
    | cons t L ih =>
      intro h
      rw [List.flatMap_cons, List.flatMap_cons, ih (fun z hz => h z (by simp [hz]))]
      congr 1
      unfold tagT only
      rw [if_pos (h t (by simp))]
  exact h _ (fun t ht => ht)
theorem f_wd (x : Inp) (hx : x.Ok) : ∀ t, Wd (x.f t) := by
  obtain ⟨h1, h2, h3, h4, h5⟩ := hx
  unfold Inp.f inF
  exact upd_wd (upd_wd (upd_wd (upd_wd (upd_wd (upd_wd (upd_wd (upd_wd (upd_wd (fun _ => by simp [Wd]) _ h1) _ h2) _ (me_wd h3)) _ (u64_wd _)) _ (u64_wd _)) _ (u64_wd _)) _ h4) _ h5) _ (u64_wd _)
theorem fE_wd (x : Evt) (hx : x.Ok) : ∀ t, Wd (x.f t) := by
  obtain ⟨h0, h1, h2, h3, h4, h5, h6⟩ := hx
  unfold Evt.f evF
  exact upd_wd (upd_wd (upd_wd (upd_wd (upd_wd (upd_wd (upd_wd (upd_wd (upd_wd (upd_wd (upd_wd (upd_wd (fun _ => by simp [Wd]) _ h0) _ h1) _ h2) _ h3) _ (me_wd h4)) _ (u64_wd _)) _ (u64_wd _)) _ (u64_wd _)) _ h5) _ h6) _ (u64_wd _)) _ (u64_wd _)
theorem Ans.down {w0 w w' : World} {v : Value} {l : List UInt8} (h : Ans w w' v l) (hb : Below w0.heap.size w0 w) : Ans w0 w' v l := by
  obtain ⟨q, cap, e, hs, ha, hb2⟩ := h
  exact ⟨q, cap, e, hs, fun a h => Nat.le_trans hb.size (ha a h), btr hb hb2⟩
theorem ans_none {w w' : World} (h : Below w.heap.size w w') : Ans w w' (.slice none 0 0) [] := ⟨none, 0, rfl, (fun i hi => by simp at hi), (fun a e => by cases e), h⟩
theorem tag_first {k : Int} (h1 : 65 ≤ k) (h2 : k ≤ 69) : ∀ j (hj : j < (tagsL k).length), ((tagsL k)[j] = 34 ↔ j = 0) := by
  obtain rfl | rfl | rfl | rfl | rfl : k = 65 ∨ k = 66 ∨ k = 67 ∨ k = 68 ∨ k = 69 := by omega
  all_goals decide

set_option maxHeartbeats 8000000 in
set_option maxRecDepth 100000 in
theorem rline_any (x : Inp) (hx : x.Ok) (hr : x.Rg) (w : World) :
    Calls Tryd.prog 9 #[.agg x.v] w fun e w' => ∃ v, e = .returned (.tuple #[v, .int .i64 x.e]) ∧ Ans w w' v (lnB x) := by
  by_cases h : x.e = 0
  · obtain ⟨h0, ht⟩ := e_zero x h
    obtain ⟨h1, h4⟩ := k_range x h0
    have hkd := kd_inp x h
    have VA := hid (fun w => values_ok x hx hr w h)
    have NA := hid (fun w => name_any x w)
    have FA := hid (fun w => fields_any x.k h1 h4 w)
    have LE := hid (fun w => letters_any w)
    have IX := hid (fun w => letter_at x.k h1 h4 w)
    have H34 := hid (show (34 : Int) ∉ tagsL x.k from fun hm => by have := tag34 hkd hm; omega)
    have hln : lnB x = lineB (lineK x.k) (ltL x.k x.f (tagsL x.k)) := by unfold lnB; rw [if_pos h]; unfold lnT Inp.F; rw [lt_only]
    have HE := hid (enc_line hkd x.f (f_wd x hx))
    have EN := hid (fun q cap w hc hm hT => rencode_any (lineK x.k) (ltL x.k x.f (tagsL x.k)) q cap w (by have := lineK_len x.k; omega) (fun z hz => by have := (lt_vals hkd x.f (f_wd x hx) z hz).2; omega) (by have := (lt_tags hkd x.f).2.1; omega) hc hm hT)
    have hEB : encB (lineK x.k) (ltL x.k x.f (tagsL x.k)) = lineB (lineK x.k) (ltL x.k x.f (tagsL x.k)) := by unfold encB; rw [if_pos HE.out]
    rw [HE.out, hEB] at EN
    rw [h, hln]
    have DC := hid (fun t w => rdec_call (x.f t) (f_wd x hx t) w)
    
    obtain ⟨OUT, hO⟩ : ∃ y, lineB (lineK x.k) (ltL x.k x.f (tagsL x.k)) = y := ⟨_, rfl⟩
    rw [hO] at EN ⊢
    have RX0 := hid (heap_alloc_new w (.cells x.v 27))
    have HB0 := hid (ball w (.cells x.v 27))
    have hlen := tags_len x.k
    have HIN := hid (tags_in x.k)
    obtain ⟨k, hk⟩ : ∃ k, x.k = k := ⟨_, rfl⟩
    unfold FldP at FA
    rw [hk] at VA NA FA EN IX hlen HIN H34
    obtain ⟨KL, hKL⟩ : ∃ y, lineK k = y := ⟨_, rfl⟩
    rw [hKL] at EN IX
    obtain ⟨L, hL⟩ : ∃ l, tagsL k = l := ⟨_, rfl⟩
    rw [hL] at VA FA EN hlen HIN H34
    obtain ⟨F, hF⟩ : ∃ y, x.f = y := ⟨_, rfl⟩
    rw [hF] at VA EN DC
    clear hF hL hKL hk hO hEB HE hln h0 ht h1 h4 hkd h hx hr
    unfold Inp.v iV at *
    go_enter Tryd.func9, Tryd.ntmps9
    go_wp2_with (first | (go_at_call 25; refine (VA.out _).mono ?_; rintro e w2 ⟨p, cp, rfl, hs, hb⟩; have RX2 := hid (row_on RX0.out hb); have HB2 := hid (btr HB0.out hb); have HU2 := hid hs; clear hb hs; refine Hid.out ?_))
    clear RX0 HB0 VA
    have HX2 := RX2.out
    obtain ⟨c0, c1, c2, c3, c4, c5, c6, c7, c8, c9, c10⟩ := cells_I RX2.out
    refine hid ?_
    go_wp2_with (first | (go_at_call 27; refine (NA.out _).mono ?_; rintro e w3 ⟨rfl, hb⟩; have RX3 := hid (row_on RX2.out hb); have HB3 := hid (btr HB2.out hb); have HU3 := hid (HU2.out.on hb); clear hb; refine Hid.out ?_))
    clear c0 c1 c2 c3 c4 c5 c6 c7 c8 c9 c10 RX2 HB2 HU2 HX2
    refine hid ?_
    go_wp2_with (first | (go_at_call 26; refine (FA.out _).mono ?_; rintro e w4 ⟨q, cap, rfl, hS, hb⟩; have RX4 := hid (row_on RX3.out hb); have HB4 := hid (btr HB3.out hb); have HU4 := hid (HU3.out.on hb); have HS4 := hid hS; clear hb hS; refine Hid.out ?_))
    clear RX3 HB3 HU3 FA
    refine hid ?_
    go_wp2
    go_loopw [7, 8] (fun lv iv wr => ∃ j : Nat, j ≤ L.length ∧ iv = .int .i64 j ∧ Hid (OwnT w4.heap.size w4 wr lv (ltL k F (L.take j)))) (fun _ iv _ => L.length - (RowKit.intOf iv).toNat)
    case atStart => exact ⟨0, Nat.zero_le _, rfl, hid (by simpa [ltL] using ownT_nil w4)⟩
    case round =>
      obtain ⟨j, hj, rfl, HO⟩ := hrel
      by_cases hjl : j < L.length
      · have hjl' : (j : Int) < (L.length : Int) := by omega
        have hj0 : (0 : Int) ≤ (j : Int) := by omega
        obtain ⟨fb, fo, rfl, hf0, _, _, _⟩ := HS4.out j hjl
        obtain ⟨ub, uo, rfl, hu0⟩ := HU4.out j (by simpa using hjl)
        rw [List.getElem_map] at hu0
        have hti := HIN.out L[j] (List.getElem_mem hjl)
        have HST := hid (ltL_step k F L j hjl)
        have h34 : L[j] ≠ 34 := fun e => H34.out (by rw [← e]; exact List.getElem_mem hjl)
        obtain ⟨t, ht⟩ : ∃ t, L[j] = t := ⟨_, rfl⟩
        rw [ht] at hf0 hu0 HST hti h34
        have HBr := hid HO.out.2.1
        have cf : wr.cell? ⟨fb, fo + j * 4, none⟩ = some (.int .i64 t) := (HBr.out.cell (cell_lt hf0)).trans hf0
        have cu : wr.cell? ⟨ub, uo + j, none⟩ = some (.int .u64 (F t)) := (HBr.out.cell (cell_lt hu0)).trans hu0
        have CF := hid (fun (w' : World) (hb : Below wr.heap.size wr w') => (hb.cell (cell_lt cf)).trans cf)
        have hll : (ltL k F (L.take j)).length ≤ 900 := by
          have := lt_le k F (L.take j)
          rw [List.length_take] at this
          omega
        have D1 := hid (fun w => DC.out t w)
        have HBD := hid (show Below wr.heap.size wr wr.drew from Below.drew (Below.refl _ _))
        clear ht hf0 hu0
        obtain ⟨l, hl⟩ : ∃ l, ltL k F (L.take j) = l := ⟨_, rfl⟩
        rw [hl] at HO HST hll
        clear hl
        have hs34 : tagT k F t = [(t, decDigits (F t).toNat)] := by unfold tagT; rw [if_neg h34]
        rw [hs34] at HST
        clear hs34 h34
        go_wp2
        go_region_law (first | (go_simp; go_at_call 28; refine (D1.out wr.drew).mono ?_; rintro e w5 ⟨rfl, hb⟩; (have HB5 := hid (btr HBD.out hb)); (have cf5 := CF.out w5 HB5.out); (have HO5 := hid (HO.out.on HB5.out)); clear hb) | (refine step_own_tag (by rfl) (.tmp 26) (.tmp 38) (by rfl) w4.heap.size _ l (by rfl) w4 w5 t (decDigits (F t).toNat) HO5.out (by rfl) (by omega) ?_; intro v6 w6 hO6; have HO6 := hid hO6; clear hO6))
        all_goals
          go_wp2
          go_roundw
          case rel => exact ⟨j + 1, by omega, by go_num, hid (by rw [HST.out]; exact HO6.out)⟩
          case measure => simp [RowKit.intOf]; omega
      · have hje : j = L.length := by omega
        subst hje
        have hfin := HO.out
        rw [List.take_length] at hfin
        have HO2 := hid hfin
        clear hfin HO
        obtain ⟨ql, cl, rfl, hTl, hcl, hml⟩ := HO2.out.form
        have HT := hid hTl
        have HBr := hid (btr HB4.out HO2.out.2.1)
        have RXr := hid (row_on RX4.out HO2.out.2.1)
        clear hTl HO2
        have HBD := hid (show Below wr.heap.size wr wr.drew from Below.drew (Below.refl _ _))
        have RXD := hid (row_on RXr.out HBD.out)
        obtain ⟨c0, c1, c2, c3, c4, c5, c6, c7, c8, c9, c10⟩ := cells_I RXr.out
        have ix := fun w => IX.out w
        go_wp2
        go_region_with (first
          | (go_at_call 30; refine (LE.out wr.drew).mono ?_; rintro e wa ⟨rfl, hb⟩; (have HBa := hid (btr HBD.out hb)); (obtain ⟨d0, d1, d2, d3, d4, d5, d6, d7, d8, d9, d10⟩ := cells_I (row_on RXr.out HBa.out)); clear hb)
          | (go_at_call 27; refine (NA.out wa).mono ?_; rintro e wb ⟨rfl, hb⟩; (have HBb := hid (btr HBa.out hb)); clear hb)
          | (go_at_call 27; refine (NA.out wr.drew).mono ?_; rintro e wa ⟨rfl, hb⟩; (have HBa := hid (btr HBD.out hb)); clear hb)
          | (go_at_call 30; refine (LE.out wa).mono ?_; rintro e wb ⟨rfl, hb⟩; (have HBb := hid (btr HBa.out hb)); clear hb)
          | (go_at_call 29; refine (EN.out _ _ wb hcl hml (HT.out.on HBb.out)).mono ?_; rintro e wc ⟨v, rfl, hA⟩; (have HA := hid hA); clear hA))
        all_goals
          go_wp2
          go_ret2
          exact ⟨v, by first | rfl | simp, Ans.down HA.out (btr HBr.out HBb.out)⟩
  · have VA := hid (fun w => values_bad x hx hr w h)
    have hln : lnB x = [] := by unfold lnB; rw [if_neg h]
    rw [hln]
    obtain ⟨E, hE⟩ : ∃ E, x.e = E := ⟨_, rfl⟩
    rw [hE] at VA h ⊢
    have hne : (E != 0) = true := by simpa using h
    clear h hx hE hr hln
    unfold Inp.v iV at *
    go_enter Tryd.func9, Tryd.ntmps9
    go_wp2_with (first | (go_at_call 25; refine (VA.out _).mono ?_; rintro e w2 ⟨rfl, hb⟩; have HB := hid hb; clear hb; refine Hid.out ?_))
    refine hid ?_
    go_wp2
    go_ret2
    exact ⟨_, by simp, ans_none (btr (ball _ _) HB.out)⟩

set_option maxHeartbeats 8000000 in
set_option maxRecDepth 100000 in
theorem rlineE_any (x : Evt) (hx : x.Ok) (hr : x.Rg) (w : World) :
    Calls Tryd.prog 11 #[.agg x.v] w fun e w' => ∃ v, e = .returned (.tuple #[v, .int .i64 x.e]) ∧ Ans w w' v (lnE x) := by
  by_cases h : x.e = 0
  · obtain ⟨h0, ht⟩ := eE_zero x h
    obtain ⟨h1, h5, hk6⟩ := kE_cases x h0
    obtain ⟨hkd, hk65, hk69, hkk⟩ := kd_evt x h
    have hkl : lineK x.k = [56] := by unfold lineK; rw [if_neg (by omega), if_neg (by omega), if_neg (by omega), if_neg (by omega)]
    have VA := hid (fun w => valuesE_ok x hx hr w h)
    have FA := hid (fun w => told_any x.kd h1 h5 w)
    rw [← hk6] at FA
    have hln : lnE x = lineB (lineK x.k) (ltL x.k x.f (tagsL x.k)) := by unfold lnE; rw [if_pos h]; unfold lnTE Evt.F; rw [lt_only]
    have HE := hid (enc_line hkd x.f (fE_wd x hx))
    have EN := hid (fun q cap w hc hm hT => rencode_any (lineK x.k) (ltL x.k x.f (tagsL x.k)) q cap w (by have := lineK_len x.k; omega) (fun z hz => by have := (lt_vals hkd x.f (fE_wd x hx) z hz).2; omega) (by have := (lt_tags hkd x.f).2.1; omega) hc hm hT)
    have hEB : encB (lineK x.k) (ltL x.k x.f (tagsL x.k)) = lineB (lineK x.k) (ltL x.k x.f (tagsL x.k)) := by unfold encB; rw [if_pos HE.out]
    rw [HE.out, hEB] at EN
    rw [h, hln]
    have DC := hid (fun t w => rdec_call (x.f t) (fE_wd x hx t) w)
    have DK := hid (fun w => rdec_call x.kd (by unfold Wd; omega) w)
    have hd0 : x.kd % 18446744073709551616 = x.kd := by omega
    have H0 := hid (show ∀ j (hj : j < (tagsL x.k).length), ((tagsL x.k)[j] = 34 ↔ j = 0) from tag_first hk65 hk69)
    rw [hkl] at EN ⊢
    obtain ⟨OUT, hO⟩ : ∃ y, lineB ([56]) (ltL x.k x.f (tagsL x.k)) = y := ⟨_, rfl⟩
    rw [hO] at EN ⊢
    have RX0 := hid (heap_alloc_new w (.cells x.v 30))
    have HB0 := hid (ball w (.cells x.v 30))
    have hlen := tags_len x.k
    have HIN := hid (tags_in x.k)
    obtain ⟨k, hk⟩ : ∃ k, x.k = k := ⟨_, rfl⟩
    unfold FldP at FA
    rw [hk] at VA FA EN hlen HIN hkk H0
    obtain ⟨L, hL⟩ : ∃ l, tagsL k = l := ⟨_, rfl⟩
    rw [hL] at VA FA EN hlen HIN
    have H0L := hid (show ∀ j (hj : j < L.length), (L[j] = 34 ↔ j = 0) from by rw [← hL]; exact H0.out)
    obtain ⟨F, hF⟩ : ∃ y, x.f = y := ⟨_, rfl⟩
    rw [hF] at VA EN DC
    clear hF hL hk hO hEB HE hln h0 ht h1 h5 hkd h hx hr hk6 hk65 hk69 hkl H0
    unfold Evt.v eV at *
    go_enter Tryd.func11, Tryd.ntmps11
    go_wp2_with (first | (go_at_call 32; refine (VA.out _).mono ?_; rintro e w2 ⟨p, cp, rfl, hs, hb⟩; have RX2 := hid (row_on RX0.out hb); have HB2 := hid (btr HB0.out hb); have HU2 := hid hs; clear hb hs; refine Hid.out ?_))
    clear RX0 HB0 VA
    have HX2 := RX2.out
    have c1 : w2.cell? ⟨w.heap.size, 1, none⟩ = some (.int .i64 x.kd) := row_cell RX2.out 1
    refine hid ?_
    go_wp2_with (first | (go_at_call 33; refine (FA.out _).mono ?_; rintro e w4 ⟨q, cap, rfl, hS, hb⟩; have RX4 := hid (row_on RX2.out hb); have HB4 := hid (btr HB2.out hb); have HU4 := hid (HU2.out.on hb); have HS4 := hid hS; clear hb hS; refine Hid.out ?_))
    clear RX2 HB2 HU2 FA HX2 c1
    refine hid ?_
    go_wp2
    go_loopw [7, 8] (fun lv iv wr => ∃ j : Nat, j ≤ L.length ∧ iv = .int .i64 j ∧ Hid (OwnT w4.heap.size w4 wr lv (ltL k F (L.take j)))) (fun _ iv _ => L.length - (RowKit.intOf iv).toNat)
    case atStart => exact ⟨0, Nat.zero_le _, rfl, hid (by simpa [ltL] using ownT_nil w4)⟩
    case round =>
      obtain ⟨j, hj, rfl, HO⟩ := hrel
      by_cases hjl : j < L.length
      · have hjl' : (j : Int) < (L.length : Int) := by omega
        have hj0 : (0 : Int) ≤ (j : Int) := by omega
        obtain ⟨fb, fo, rfl, hf0, _, _, _⟩ := HS4.out j hjl
        obtain ⟨ub, uo, rfl, hu0⟩ := HU4.out j (by simpa using hjl)
        rw [List.getElem_map] at hu0
        have hti := HIN.out L[j] (List.getElem_mem hjl)
        have HST := hid (ltL_step k F L j hjl)
        have h0i := H0L.out j hjl
        obtain ⟨t, ht⟩ : ∃ t, L[j] = t := ⟨_, rfl⟩
        rw [ht] at hf0 hu0 HST hti h0i
        have HBr := hid HO.out.2.1
        have cf : wr.cell? ⟨fb, fo + j * 4, none⟩ = some (.int .i64 t) := (HBr.out.cell (cell_lt hf0)).trans hf0
        have cu : wr.cell? ⟨ub, uo + j, none⟩ = some (.int .u64 (F t)) := (HBr.out.cell (cell_lt hu0)).trans hu0
        have CF := hid (fun (w' : World) (hb : Below wr.heap.size wr w') => (hb.cell (cell_lt cf)).trans cf)
        have hll : (ltL k F (L.take j)).length ≤ 900 := by
          have := lt_le k F (L.take j)
          rw [List.length_take] at this
          omega
        have D1 := hid (fun w => DC.out t w)
        have HBD := hid (show Below wr.heap.size wr wr.drew from Below.drew (Below.refl _ _))
        clear ht hf0 hu0
        obtain ⟨l, hl⟩ : ∃ l, ltL k F (L.take j) = l := ⟨_, rfl⟩
        rw [hl] at HO HST hll
        clear hl
        by_cases hz : j = 0
        · subst hz
          have ht34 := h0i.2 rfl
          subst ht34
          have hs34 : tagT k F 34 = [(34, decDigits (F 34).toNat), (150, decDigits x.kd.toNat)] := by unfold tagT; rw [if_pos rfl, hkk]
          rw [hs34] at HST
          simp only [Nat.zero_mul, Nat.add_zero] at cf cu
          have CF := hid (fun (w' : World) (hb : Below wr.heap.size wr w') => (hb.cell (cell_lt cf)).trans cf)
          have hl0 : (0 : Int) < (L.length : Int) := by omega
          clear hs34 h0i
          go_wp2
          go_region_law (first | (go_simp; go_at_call 28; refine (D1.out wr.drew).mono ?_; rintro e w5 ⟨rfl, hb⟩; (have HB5 := hid (btr HBD.out hb)); (have cf5 := CF.out w5 HB5.out); (have HO5 := hid (HO.out.on HB5.out)); clear hb) | (refine step_own_tag (by rfl) (.tmp 26) (.tmp 38) (by rfl) w4.heap.size _ l (by rfl) w4 w5 34 (decDigits (F 34).toNat) HO5.out (by rfl) (by omega) ?_; intro v6 w6 hO6; have HO6 := hid hO6; clear hO6))
          all_goals
            have cx : w6.cell? ⟨w.heap.size, 1, none⟩ = some (.int .i64 x.kd) := row_cell (row_on RX4.out HO6.out.2.1) 1
            go_wp2_with (first | (go_at_call 28; refine (DK.out _).mono ?_; rintro e w7 ⟨rfl, hb⟩; have HO7 := hid (HO6.out.on hb); clear hb; refine Hid.out ?_))
            refine hid ?_
            go_wp2_with (first
              | (at_builtin; refine own_tag (by rfl) (.tmp 42) (.tmp 48) (by rfl) w4.heap.size _ (l ++ [(34, decDigits (F 34).toNat)]) (by rfl) w4 w7 150 (decDigits x.kd.toNat) HO7.out (by rfl) (by simp; omega) ?_; intro v8 w8 hO8; have HO8 := hid hO8; clear hO8; refine Hid.out ?_))
            refine hid ?_
            go_wp2
            go_roundw
            case rel => exact ⟨0 + 1, by omega, by go_num, hid (by rw [HST.out]; simpa using HO8.out)⟩
            case measure => simp [RowKit.intOf]; omega
        · have h34 : ¬ t = 34 := fun e => hz (h0i.1 e)
          have hs34 : tagT k F t = [(t, decDigits (F t).toNat)] := by unfold tagT; rw [if_neg h34]
          rw [hs34] at HST
          have hzf : ((j : Int) == 0) = false := by simp; omega
          clear hs34 h34 h0i hz
          go_wp2
          go_region_law (first | (go_simp; go_at_call 28; refine (D1.out wr.drew).mono ?_; rintro e w5 ⟨rfl, hb⟩; (have HB5 := hid (btr HBD.out hb)); (have cf5 := CF.out w5 HB5.out); (have HO5 := hid (HO.out.on HB5.out)); clear hb) | (refine step_own_tag (by rfl) (.tmp 26) (.tmp 38) (by rfl) w4.heap.size _ l (by rfl) w4 w5 t (decDigits (F t).toNat) HO5.out (by rfl) (by omega) ?_; intro v6 w6 hO6; have HO6 := hid hO6; clear hO6))
          all_goals
            go_wp2
            go_roundw
            case rel => exact ⟨j + 1, by omega, by go_num, hid (by rw [HST.out]; exact HO6.out)⟩
            case measure => simp [RowKit.intOf]; omega
      · have hje : j = L.length := by omega
        subst hje
        have hfin := HO.out
        rw [List.take_length] at hfin
        have HO2 := hid hfin
        clear hfin HO
        obtain ⟨ql, cl, rfl, hTl, hcl, hml⟩ := HO2.out.form
        have HT := hid hTl
        have HBr := hid (btr HB4.out HO2.out.2.1)
        have RXr := hid (row_on RX4.out HO2.out.2.1)
        clear hTl HO2
        go_wp2_with (first | (go_at_call 29; refine (EN.out _ _ _ hcl hml HT.out).mono ?_; rintro e wc ⟨v, rfl, hA⟩; have HA := hid hA; clear hA; refine Hid.out ?_))
        refine hid ?_
        go_wp2
        go_ret2
        exact ⟨v, by first | rfl | simp, Ans.down HA.out HBr.out⟩
  · have VA := hid (fun w => valuesE_bad x hx hr w h)
    have hln : lnE x = [] := by unfold lnE; rw [if_neg h]
    rw [hln]
    obtain ⟨E, hE⟩ : ∃ E, x.e = E := ⟨_, rfl⟩
    rw [hE] at VA h ⊢
    have hne : (E != 0) = true := by simpa using h
    clear h hx hE hr hln
    unfold Evt.v eV at *
    go_enter Tryd.func11, Tryd.ntmps11
    go_wp2_with (first | (go_at_call 32; refine (VA.out _).mono ?_; rintro e w2 ⟨rfl, hb⟩; have HB := hid hb; clear hb; refine Hid.out ?_))
    refine hid ?_
    go_wp2
    go_ret2
    exact ⟨_, by simp, ans_none (btr (ball _ _) HB.out)⟩
end Go.Proofs.YtjgjoohdocjpkaaDoor.Msg
namespace Go.Proofs.YtjgjoohdocjpkaaDoor.Msg
open Go.RowKit Go.Maps Go.Deep Go.Lib
set_option linter.unusedVariables false
set_option linter.unusedSimpArgs false
theorem news_three (w : World) : ∀ (j : Nat) (u : Value), ([.int .u8 221, .int .u8 221, .int .u8 221] : List Value)[j]? = some u → (w.alloc (.cells #[.int .u8 221, .int .u8 221, .int .u8 221] 5)).cell? ((⟨w.heap.size, 0, none⟩ : Addr).add j) = some u := by
  intro j u hj
  rw [Addr.add_mid, Nat.zero_add, World.cell?_alloc_new]
  simpa using hj
theorem one_three : ∀ u ∈ ([.int .u8 221, .int .u8 221, .int .u8 221] : List Value), u.oneCell' = true := by
  intro u hu
  simp at hu
  subst hu
  rfl
set_option maxHeartbeats 2000000 in
set_option maxRecDepth 100000 in
/-- the law's spoil. -/
theorem spoil_any (v : Value) (n B : Nat) (xs : List Value) (w : World) (hn : n ≤ 5000) (hB : B ≤ w.heap.size) (hown : w.ownsRow B 5 1 v n xs) :
    Calls Tryd.prog 12 #[v] w fun e w' => e = .returned (.tuple #[]) ∧ w.grownBy w' v.ownBlock := by
  obtain ⟨q, cap, hv⟩ : ∃ q cap, v = .slice q n cap := by
    rcases hown.2 with ⟨h, h0⟩ | ⟨g, c, cur, h, _⟩
    · exact ⟨none, 0, by rw [h, h0]⟩
    · exact ⟨_, c, h⟩
  subst hv
  have HO := hid hown
  obtain ⟨i0, hi, hz0, hz1, hz2⟩ := info_parts info5all
  have HI := hid hi
  have HZ0 := hid hz0
  have HZ1 := hid hz1
  have HZ2 := hid hz2
  clear hown hi hz0 hz1 hz2
  go_enter Tryd.func12, Tryd.ntmps12
  go_wp2_with fail
  go_loopw [2] (fun iv wr => ∃ k : Nat, k ≤ n ∧ iv = .int .i64 k ∧ Hid (∃ xs, wr.ownsRow B 5 1 (.slice q n cap) n xs) ∧ Hid (w.grownBy wr (Value.slice q n cap).ownBlock)) (fun iv _ => n - (RowKit.intOf iv).toNat)
  case atStart => exact ⟨0, Nat.zero_le _, rfl, hid ⟨xs, HO.out⟩, hid (grown_refl _ _)⟩
  case round =>
    obtain ⟨k, hk, rfl, HX, HG⟩ := hrel
    by_cases hlt : k < n
    · obtain ⟨ys, hy⟩ := HX.out
      obtain ⟨g, c, e, hBg, hgl⟩ := hy.form (by omega)
      obtain ⟨rfl, rfl⟩ : q = some ⟨g, 0, none⟩ ∧ cap = c := by simpa using e
      have hlen := hy.1
      have hcell := hy.cellAt k (by omega)
      rw [List.getElem?_eq_getElem (by omega)] at hcell
      have hfr := hy.frozenAt k
      obtain ⟨s1, s2⟩ := hy.stored k (.int .u8 238)
      have S1 := hid s1
      have S2 := hid s2
      have i0 : (0 : Int) ≤ (k : Int) := by omega
      have i1 : (k : Int) < (n : Int) := by omega
      obtain ⟨u, hu⟩ : ∃ u, ys[k]'(by omega) = u := ⟨_, rfl⟩
      rw [hu] at hcell
      clear hy hlen s1 s2 hu e
      go_wp2
      go_roundw
      case rel => exact ⟨k + 1, by omega, by go_num, hid ⟨_, S1.out⟩, hid (grown_step HG.out S2.out (Or.inl rfl))⟩
      case measure => simp [RowKit.intOf]; omega
    · obtain ⟨ys, hy⟩ := HX.out
      have HY := hid (own_alloc hy (.cells #[.int .u8 221, .int .u8 221, .int .u8 221] 5))
      have HBw := hid (Nat.le_trans hB HG.out.size)
      clear hy
      go_wp2_with (at_builtin; refine wpList_append_lies _ (by rfl) (.tmp 12) (.tmp 13) 31 (by rfl) B 5 i0 (.int .u8 0) 1 1 Tryd.underlying31 HI.out HZ0.out HZ1.out HZ2.out rfl (by decide) _ n ys (by rfl) HY.out ⟨wr.heap.size, 0, none⟩ 3 3 [.int .u8 221, .int .u8 221, .int .u8 221] (by rfl) rfl (news_three wr) one_three (by decide) (by unfold maxLen; omega) (by omega) (by have := HBw.out; simp; omega) (wr.heap.size + 1) (by simp) ?_; intro g c w1 hown1 hgrow hat hglt; have G1 := hid hgrow; clear hown1 hgrow hat hglt)
      go_end0
      exact ⟨rfl, grown_step (grown_step HG.out (World.grownBy_alloc _ _ _) (Or.inl rfl)) G1.out (Or.inl rfl)⟩
theorem own_place {B : Nat} {W0 w : World} {v : Value} {l : List UInt8} (h : Own B W0 w v l) : ∃ q cap, v = .slice q l.length cap ∧ Sb w q l ∧ (∀ g, v.ownBlock = some g → B ≤ g ∧ g < w.heap.size) ∧ (∀ a, q = some a → B ≤ a.block ∧ a.block < w.heap.size) := by
  obtain ⟨q, cap, hv, hS⟩ := h.form
  refine ⟨q, cap, hv, hS, fun g hg => h.1.lt g hg, fun a ha => ?_⟩
  rcases h.1.2 with ⟨e, _⟩ | ⟨g, c, cur, e, hB, hg, _⟩
  · rw [hv] at e
    simp only [Value.slice.injEq] at e
    rw [e.1] at ha
    cases ha
  · rw [hv] at e
    simp only [Value.slice.injEq] at e
    rw [e.1] at ha
    simp only [Option.some.injEq] at ha
    subst ha
    refine ⟨hB, ?_⟩
    rcases Nat.lt_or_ge g w.heap.size with h' | h'
    · exact h'
    · rw [Array.getElem?_eq_none h'] at hg; cases hg
theorem sb_far {w w' : World} {q : Option Addr} {l : List UInt8} {ob : Option Nat} (h : Sb w q l) (hg : w.grownBy w' ob) (hne : ∀ a g, q = some a → ob = some g → l ≠ [] → a.block ≠ g) : Sb w' q l := by
  intro i hi
  obtain ⟨b, o, e, hc⟩ := h i hi
  refine ⟨b, o, e, ?_⟩
  have hl : l ≠ [] := by rintro rfl; simp at hi
  have hb := hg.block b (cell_lt hc) (by
    intro e2
    exact hne _ _ e e2.symm hl rfl)
  unfold World.cell? at hc ⊢
  simp only [hb]
  exact hc
theorem Own.far {B : Nat} {W0 w w' : World} {v : Value} {l : List UInt8} {ob : Option Nat} (h : Own B W0 w v l) (hg : w.grownBy w' ob) (hB : ∀ g, ob = some g → g < B) : Own B w' w' v l := by
  obtain ⟨⟨h1, h2⟩, h3, h4⟩ := h
  refine ⟨⟨h1, ?_⟩, Below.refl _ _, Nat.le_trans h4 hg.size⟩
  rcases h2 with h2 | ⟨r, cap, cur, e, hr, hc, k⟩
  · exact Or.inl h2
  · have hlt : r < w.heap.size := by
      rcases Nat.lt_or_ge r w.heap.size with h' | h'
      · exact h'
      · simp [Array.getElem?_eq_none h'] at hc
    exact Or.inr ⟨r, cap, cur, e, hr, by rw [hg.block r hlt (fun e2 => by have := hB r e2.symm; omega)]; exact hc, k⟩
theorem ans_place {w w' : World} {v : Value} {l : List UInt8} (h : Ans w w' v l) : ∃ q cap, v = .slice q l.length cap ∧ Sb w' q l ∧ (∀ a, q = some a → w.heap.size ≤ a.block) ∧ (∀ a, q = some a → l ≠ [] → a.block < w'.heap.size) ∧ Below w.heap.size w w' := by
  obtain ⟨q, cap, hv, hS, ha, hb⟩ := h
  refine ⟨q, cap, hv, hS, ha, fun a e hl => ?_, hb⟩
  obtain ⟨b, o, e2, hc⟩ := hS 0 (by cases l with | nil => exact absurd rfl hl | cons => simp)
  rw [e] at e2
  simp only [Option.some.injEq] at e2
  subst e2
  exact cell_lt hc
set_option maxHeartbeats 16000000 in
set_option maxRecDepth 100000 in
theorem lines_walk (x : Inp) (hx : x.Ok) (hr : x.Rg) (y : Evt) (hy : y.Ok) (hs : y.Rg) (w : World) (hL : Lay w) : Calls Tryd.prog 3 #[.agg x.v, .agg y.v] w fun e w' => e = .returned (.bool true) ∧ Below w.heap.size w w' := by
  have HL := hid hL
  have LI := hid (fun w hL => lineI_any x hx w hL)
  have LJ := hid (fun w hL => lineE_any y hy w hL)
  have RI := hid (fun w => rline_any x hx hr w)
  have RJ := hid (fun w => rlineE_any y hy hs w)
  have sx := ln_small x hx
  have sy := lnE_small y hy
  obtain ⟨A, hA⟩ : ∃ z, lnB x = z := ⟨_, rfl⟩
  obtain ⟨C, hC⟩ : ∃ z, lnE y = z := ⟨_, rfl⟩
  obtain ⟨E, hE⟩ : ∃ z, x.e = z := ⟨_, rfl⟩
  obtain ⟨G, hG⟩ : ∃ z, y.e = z := ⟨_, rfl⟩
  rw [hA, hE] at LI RI
  rw [hC, hG] at LJ RJ
  rw [hA] at sx
  rw [hC] at sy
  have RX0 := hid (row_on (heap_alloc_new w (.cells x.v 27)) (ball _ (.cells y.v 30)))
  have RY0 := hid (heap2 w (.cells x.v 27) (.cells y.v 30))
  have HB0 := hid (btr (ball w (.cells x.v 27)) (ball _ (.cells y.v 30)))
  have SPA := hid (fun v n B xs w hn hB h => spoil_any v n B xs w hn hB h)
  clear hA hC hE hG hL hx hy hr hs
  unfold Inp.v iV Evt.v eV at *
  have HB0s := HB0.out.size
  obtain ⟨c0, c1, c2, c3, c4, c5, c6, c7, c8, c9, c10⟩ := cells_I RX0.out
  go_enter Tryd.func3, Tryd.ntmps3
  go_wp2_with (first | (go_at_call 8; refine (LI.out _ (HL.out.on HB0.out)).mono ?_; rintro e w1 ⟨va, rfl, hO, hn⟩; have hb := hO.2.1; have Oa := hid hO; clear hO hn; have RX_1 := hid (row_on RX0.out hb); have RY_1 := hid (row_on RY0.out hb); have HB_1 := hid (btr HB0.out hb); have z1 := hb.size; clear hb; refine Hid.out ?_))
  clear RX0 RY0 HB0
  obtain ⟨qa, ca, rfl, hS, hob, hpl⟩ := own_place Oa.out
  have Sa := hid hS
  have Pa := hid hpl
  have Qa := hid hob
  clear hS hpl hob
  clear c0 c1 c2 c3 c4 c5 c6 c7 c8 c9 c10
  obtain ⟨z1_0, z1_1, z1_2, z1_3, z1_4, z1_5, z1_6, z1_7, z1_8, z1_9, z1_10⟩ := cells_I RX_1.out
  refine hid ?_
  go_wp2_with (first | (go_at_call 8; refine (LI.out _ (HL.out.on HB_1.out)).mono ?_; rintro e w2 ⟨vb, rfl, hO, hn⟩; have hb := hO.2.1; have Ob := hid hO; clear hO hn; have RX_2 := hid (row_on RX_1.out hb); have RY_2 := hid (row_on RY_1.out hb); have Sa_2 := hid (Sa.out.on hb); have Oa_2 := hid (Oa.out.on hb); have HB_2 := hid (btr HB_1.out hb); have z2 := hb.size; clear hb; refine Hid.out ?_))
  clear RX_1 RY_1 Sa Oa HB_1
  clear z1_0 z1_1 z1_2 z1_3 z1_4 z1_5 z1_6 z1_7 z1_8 z1_9 z1_10
  obtain ⟨qb, cb, rfl, hS, hob, hpl⟩ := own_place Ob.out
  have Sb := hid hS
  have Pb := hid hpl
  have Qb := hid hob
  clear hS hpl hob
  obtain ⟨z2_0, z2_1, z2_2, z2_3, z2_4, z2_5, z2_6, z2_7, z2_8, z2_9, z2_10⟩ := cells_I RX_2.out
  refine hid ?_
  go_wp2_with (first | (go_at_call 9; refine (RI.out _).mono ?_; rintro e w3 ⟨vw, rfl, hA⟩; have hb := hA.choose_spec.choose_spec.2.2.2; have Aw := hid hA; clear hA; have RX_3 := hid (row_on RX_2.out hb); have RY_3 := hid (row_on RY_2.out hb); have Sa_3 := hid (Sa_2.out.on hb); have Oa_3 := hid (Oa_2.out.on hb); have Sb__3 := hid (Sb.out.on hb); have HBs3 := (btr HB_2.out hb).size; have HB_3 := hid (btr HB_2.out hb); have z3 := hb.size; clear hb; refine Hid.out ?_))
  clear RX_2 RY_2 Sa_2 Oa_2 Sb HB_2
  clear z2_0 z2_1 z2_2 z2_3 z2_4 z2_5 z2_6 z2_7 z2_8 z2_9 z2_10
  obtain ⟨qw, cw, rfl, hS, hp1, hp2, hbb⟩ := ans_place Aw.out
  have Sw := hid hS
  have Pw := hid hp1
  have Qw := hid hp2
  clear hS hp1 hp2 hbb Aw
  obtain ⟨z3_0, z3_1, z3_2, z3_3, z3_4, z3_5, z3_6, z3_7, z3_8, z3_9, z3_10, z3_11, z3_12⟩ := cells_E RY_3.out
  refine hid ?_
  go_wp2_with (first | (go_at_call 10; refine (LJ.out _ (HL.out.on HB_3.out)).mono ?_; rintro e w4 ⟨vc, rfl, hO, hn⟩; have hb := hO.2.1; have Oc := hid hO; clear hO hn; have RX_4 := hid (row_on RX_3.out hb); have RY_4 := hid (row_on RY_3.out hb); have Sa_4 := hid (Sa_3.out.on hb); have Oa_4 := hid (Oa_3.out.on hb); have Sb__4 := hid (Sb__3.out.on hb); have Sw_4 := hid (Sw.out.on hb); have HB_4 := hid (btr HB_3.out hb); have z4 := hb.size; clear hb; refine Hid.out ?_))
  clear RX_3 RY_3 Sa_3 Oa_3 Sb__3 Sw HB_3
  clear z3_0 z3_1 z3_2 z3_3 z3_4 z3_5 z3_6 z3_7 z3_8 z3_9 z3_10 z3_11 z3_12
  obtain ⟨qc, cc, rfl, hS, hob, hpl⟩ := own_place Oc.out
  have Sc := hid hS
  have Pc := hid hpl
  have Qc := hid hob
  clear hS hpl hob
  obtain ⟨z4_0, z4_1, z4_2, z4_3, z4_4, z4_5, z4_6, z4_7, z4_8, z4_9, z4_10, z4_11, z4_12⟩ := cells_E RY_4.out
  refine hid ?_
  go_wp2_with (first | (go_at_call 10; refine (LJ.out _ (HL.out.on HB_4.out)).mono ?_; rintro e w5 ⟨vd, rfl, hO, hn⟩; have hb := hO.2.1; have Od := hid hO; clear hO hn; have RX_5 := hid (row_on RX_4.out hb); have RY_5 := hid (row_on RY_4.out hb); have Sa_5 := hid (Sa_4.out.on hb); have Oa_5 := hid (Oa_4.out.on hb); have Sb__5 := hid (Sb__4.out.on hb); have Sw_5 := hid (Sw_4.out.on hb); have Sc_5 := hid (Sc.out.on hb); have Oc_5 := hid (Oc.out.on hb); have HB_5 := hid (btr HB_4.out hb); have z5 := hb.size; clear hb; refine Hid.out ?_))
  clear RX_4 RY_4 Sa_4 Oa_4 Sb__4 Sw_4 Sc Oc HB_4
  clear z4_0 z4_1 z4_2 z4_3 z4_4 z4_5 z4_6 z4_7 z4_8 z4_9 z4_10 z4_11 z4_12
  obtain ⟨qd, cd, rfl, hS, hob, hpl⟩ := own_place Od.out
  have Sd := hid hS
  have Pd := hid hpl
  have Qd := hid hob
  clear hS hpl hob
  obtain ⟨z5_0, z5_1, z5_2, z5_3, z5_4, z5_5, z5_6, z5_7, z5_8, z5_9, z5_10, z5_11, z5_12⟩ := cells_E RY_5.out
  refine hid ?_
  go_wp2_with (first | (go_at_call 11; refine (RJ.out _).mono ?_; rintro e w6 ⟨vx, rfl, hA⟩; have hb := hA.choose_spec.choose_spec.2.2.2; have Ax := hid hA; clear hA; have RX_6 := hid (row_on RX_5.out hb); have RY_6 := hid (row_on RY_5.out hb); have Sa_6 := hid (Sa_5.out.on hb); have Oa_6 := hid (Oa_5.out.on hb); have Sb__6 := hid (Sb__5.out.on hb); have Sw_6 := hid (Sw_5.out.on hb); have Sc_6 := hid (Sc_5.out.on hb); have Oc_6 := hid (Oc_5.out.on hb); have Sd_6 := hid (Sd.out.on hb); have HB_6 := hid (btr HB_5.out hb); have z6 := hb.size; clear hb; refine Hid.out ?_))
  clear RX_5 RY_5 Sa_5 Oa_5 Sb__5 Sw_5 Sc_5 Oc_5 Sd HB_5
  clear z5_0 z5_1 z5_2 z5_3 z5_4 z5_5 z5_6 z5_7 z5_8 z5_9 z5_10 z5_11 z5_12
  obtain ⟨qx, cx, rfl, hS, hp1, hp2, hbb⟩ := ans_place Ax.out
  have Sx := hid hS
  have Px := hid hp1
  have Qx := hid hp2
  clear hS hp1 hp2 hbb Ax
  have cva := conv_any Sa_6.out ca
  have cvw := conv_any Sw_6.out cw
  have cvc := conv_any Sc_6.out cc
  have cvx := conv_any Sx.out cx
  refine hid ?_
  go_wp2_with (first | (go_at_call 12; refine (SPA.out _ _ _ _ _ (by omega) Oa_6.out.2.2 Oa_6.out.1).mono ?_; rintro e w7 ⟨rfl, hg⟩; have HG := hid hg; clear hg; refine Hid.out ?_))
  have hga : ∀ g, (Value.slice qa A.length ca).ownBlock = some g → w.heap.size ≤ g ∧ g < w1.heap.size := fun g h => ⟨by have := (Qa.out g h).1; have := HB0s; omega, (Qa.out g h).2⟩
  have HB7 := hid (HB_6.out.grown HG.out HB_6.out.size (fun g h => (hga g h).1))
  have Tb := hid (sb_far Sb__6.out HG.out (fun a g e h _ hh => by have h1 := (hga g h).2; have h2 := (Pb.out a e).1; omega))
  have Tw := hid (sb_far Sw_6.out HG.out (fun a g e h _ hh => by have h1 := (hga g h).2; have h2 := (Pw.out a e); omega))
  have Td := hid (sb_far Sd_6.out HG.out (fun a g e h _ hh => by have h1 := (hga g h).2; have h2 := (Pd.out a e).1; omega))
  have Tx := hid (sb_far Sx.out HG.out (fun a g e h _ hh => by have h1 := (hga g h).2; have h2 := (Px.out a e); omega))
  have Tc := hid (sb_far Sc_6.out HG.out (fun a g e h _ hh => by have h1 := (hga g h).2; have h2 := (Pc.out a e).1; omega))
  have OC := hid (Own.far Oc_6.out HG.out (fun g h => by have h1 := (hga g h).2; omega))
  clear cva cvw cvc cvx
  refine hid ?_
  go_wp2_with (first | (go_at_call 12; refine (SPA.out _ _ _ _ _ (by omega) OC.out.2.2 OC.out.1).mono ?_; rintro e w8 ⟨rfl, hg⟩; have HK := hid hg; clear hg; refine Hid.out ?_))
  have hgc : ∀ g, (Value.slice qc C.length cc).ownBlock = some g → w3.heap.size ≤ g ∧ g < w4.heap.size := fun g h => Qc.out g h
  have HB8 := hid (HB7.out.grown HK.out HB7.out.size (fun g h => by have h1 := (hgc g h).1; have h2 := HBs3; omega))
  have Ub := hid (sb_far Tb.out HK.out (fun a g e h hl hh => by have h1 := (hgc g h).1; have h2 := (Pb.out a e).2; omega))
  have Uw := hid (sb_far Tw.out HK.out (fun a g e h hl hh => by have h1 := (hgc g h).1; have h2 := Qw.out a e hl; omega))
  have Ud := hid (sb_far Td.out HK.out (fun a g e h hl hh => by have h1 := (hgc g h).2; have h2 := (Pd.out a e).1; omega))
  have Ux := hid (sb_far Tx.out HK.out (fun a g e h hl hh => by have h1 := (hgc g h).2; have h2 := Px.out a e; omega))
  have cvb := conv_any Ub.out cb
  have cvw := conv_any Uw.out cw
  have cvd := conv_any Ud.out cd
  have cvx := conv_any Ux.out cx
  refine hid ?_
  go_wp2
  go_ret
  exact ⟨by simp, HB8.out⟩
end Go.Proofs.YtjgjoohdocjpkaaDoor.Msg
namespace Go.Proofs.YtjgjoohdocjpkaaDoor.messageLines
open Go.ChangeShapes Go.WideShapes Go.ChangeAt Go.RowKit Go.Joins
set_option linter.unusedVariables false
set_option maxRecDepth 100000 in
theorem contract (H : Type) (enc : TypeId × Value → H) (W : World) (base : Nat) (args : Array Value) (ds gs : List (DataW H)) (before : List MemPlace)
    (hval : ∀ (j : Nat) t v, Tryd.f3.params[j]? = some t → args[j]? = some v → Value.okWide Tryd.prog W .any base t v)
    (hW : DataW.Whole enc Tryd.prog Tryd.f3.params.toList Rows.messageLinesSpec.vars false W args.toList ds gs before) (hL : laidMetH Tryd.prog Rows.messageLinesRow.laid W) :
    Calls Tryd.prog 3 args W fun e W' => ∃ v, e = .returned v ∧ Rows.messageLinesSpec.post enc Tryd.prog Tryd.f3 false true false false W args v W' := by
  have hW' := hW
  obtain ⟨p, q, hA0, hV, rfl, hfz, hnd⟩ := hW
  have hA : DataW.TrodAll enc Tryd.prog W 0 (fun _ => true) true Tryd.f3.params.toList args.toList ds p := hA0
  rw [Tryd.params3] at hA hval
  obtain ⟨v0, vs0, d0, ds0, p0, q0, hargs, rfl, rfl, h0, r0⟩ := trodAll_cons hA
  obtain ⟨v1, vs1, d1, ds1, p1, q1, rfl, rfl, rfl, h1, r1⟩ := trodAll_cons r0
  obtain ⟨rfl, rfl, rfl⟩ := trodAll_nil r1
  obtain rfl : args = #[v0, v1] := by cases args; simp_all
  obtain ⟨rfl, rfl⟩ := trodVars_none hV
  have k0 := h0
  have lt0 : ∀ x ∈ p0, x.block < W.heap.size := by obtain ⟨m, hm⟩ := k0; exact DataW.trod_lt m _ _ _ hm
  have k1 := h1
  have lt1 : ∀ x ∈ p1, x.block < W.heap.size := by obtain ⟨m, hm⟩ := k1; exact DataW.trod_lt m _ _ _ hm
  obtain ⟨x, rfl, hx, hr⟩ := Msg.open_inp (hval 0 27 v0 rfl rfl) h0
  obtain ⟨y, rfl, hy, hs⟩ := Msg.open_evt (hval 1 30 v1 rfl rfl) h1
  clear hA0
  refine (Msg.lines_walk x hx hr y hy hs W (lay_of3 hL)).mono fun e W' ⟨he, bel⟩ => ?_
  subst he
  exact ⟨_, rfl, _, _, _, [], _, [], hW', trodAll_mk1 (shut_bool Tryd.underlying4 _), (trodAll_cons_mk (Below.trod laidOut (by kernel_rfl) (of_decide_eq_true (by kernel_rfl)) k0 bel lt0) (trodAll_cons_mk (Below.trod laidOut (by kernel_rfl) (of_decide_eq_true (by kernel_rfl)) k1 bel lt1) trodAll_mk0)), rfl, bel.frame _, fun h => by cases h⟩

theorem laid_met (os : Os) : laidMet Tryd.prog Rows.messageLinesRow.laid ((laidWorld os).forCall (fun _ _ => 0) ⟨#[], #[.agg #[.int .i64 0, .int .i64 0, .int .u64 0, .int .u64 0, .int .u32 0, .int .i64 0, .int .i64 0, .int .i64 0, .int .u64 0, .int .u64 0, .int .i64 0], .agg #[.int .u64 0, .int .i64 0, .int .u64 0, .int .u64 0, .int .u64 0, .int .u32 0, .int .i64 0, .int .i64 0, .int .i64 0, .int .u64 0, .int .u64 0, .int .i64 0, .int .i64 0]], []⟩).memory :=
  laidMet_of_run' 8 (by kernel_rfl) (by kernel_rfl)
theorem reads (os : Os) {H : Type} (enc : TypeId × Value → H) : ∃ places, DataW.whole enc Tryd.prog ((laidWorld os).forCall (fun _ _ => 0) ⟨#[], #[.agg #[.int .i64 0, .int .i64 0, .int .u64 0, .int .u64 0, .int .u32 0, .int .i64 0, .int .i64 0, .int .i64 0, .int .u64 0, .int .u64 0, .int .i64 0], .agg #[.int .u64 0, .int .i64 0, .int .u64 0, .int .u64 0, .int .u64 0, .int .u32 0, .int .i64 0, .int .i64 0, .int .i64 0, .int .u64 0, .int .u64 0, .int .i64 0, .int .i64 0]], []⟩).memory Tryd.f3.params.toList Rows.messageLinesSpec.vars false (#[.agg #[.int .i64 0, .int .i64 0, .int .u64 0, .int .u64 0, .int .u32 0, .int .i64 0, .int .i64 0, .int .i64 0, .int .u64 0, .int .u64 0, .int .i64 0], .agg #[.int .u64 0, .int .i64 0, .int .u64 0, .int .u64 0, .int .u64 0, .int .u32 0, .int .i64 0, .int .i64 0, .int .i64 0, .int .u64 0, .int .u64 0, .int .i64 0, .int .i64 0]] : Array Value).toList 8 = some ([.agg [.lit (.int .i64 0), .agg [.lit (.int .i64 0), .lit (.int .u64 0), .lit (.int .u64 0), .lit (.int .u32 0), .lit (.int .i64 0), .lit (.int .i64 0), .lit (.int .i64 0), .lit (.int .u64 0), .lit (.int .u64 0)], .lit (.int .i64 0)], .agg [.lit (.int .u64 0), .lit (.int .i64 0), .lit (.int .u64 0), .lit (.int .u64 0), .lit (.int .u64 0), .lit (.int .u32 0), .lit (.int .i64 0), .lit (.int .i64 0), .lit (.int .i64 0), .lit (.int .u64 0), .lit (.int .u64 0), .lit (.int .i64 0), .lit (.int .i64 0)]], [], places) :=
  ⟨[], by kernel_rfl⟩

set_option maxRecDepth 100000 in
theorem lifted (os : Os) (started : os.Started) (H : Type) (enc : TypeId × Value → H) (F : Stop.Interp) :
    ReturnsInHanded {} Tryd.checked os 3 .any ((OpenSpec.ofChange Rows.messageLinesSpec).preRow enc Tryd.prog Tryd.f3 Rows.messageLinesRow.domain false Rows.messageLinesRow.laid) (((OpenSpec.ofChange Rows.messageLinesSpec).at F).post enc Tryd.prog Tryd.f3 false true false false) := by
  obtain ⟨places, hx⟩ := reads os enc
  refine returnsInHanded_of_row (C := Tryd.checked) (s := OpenSpec.ofChange Rows.messageLinesSpec) own started (by kernel_rfl) Tryd.func3
    (witness_row_at (enc := enc) (C := Tryd.checked) false (laidWorld os) #[.agg #[.int .i64 0, .int .i64 0, .int .u64 0, .int .u64 0, .int .u32 0, .int .i64 0, .int .i64 0, .int .i64 0, .int .u64 0, .int .u64 0, .int .i64 0], .agg #[.int .u64 0, .int .i64 0, .int .u64 0, .int .u64 0, .int .u64 0, .int .u32 0, .int .i64 0, .int .i64 0, .int .i64 0, .int .u64 0, .int .u64 0, .int .i64 0, .int .i64 0]] rfl (by kernel_rfl) (by kernel_rfl) (by kernel_rfl)
      (OpenSpec.preRow_of_cond 8 hx (by kernel_rfl) (fun k hk => by cases hk) (by kernel_rfl) (laid_met os))) ?_
  intro W base args ds gs before hval hW _ _ _ hL _ _
  exact contract H enc W base args ds gs before hval hW hL

theorem said : Rows.MessageLinesSaid :=
  OpenClaim.holds_of_cond 3 Tryd.f3 rfl rfl rfl rfl rfl rfl rfl ⟨rfl, rfl, rfl, rfl, rfl⟩ rfl rfl rfl rfl rfl (by kernel_rfl) Tryd.func3 (by kernel_rfl)
    (of_decide_eq_true (by kernel_rfl)) (by unfold Func.isWrapper; first | (rw [if_pos (by decide +kernel)]; kernel_rfl) | (rw [if_neg (by decide +kernel)]; exact ⟨rfl, rfl⟩))
    (fun os started H enc _ F => by rw [OpenClaim.pre_eq_preRow]; exact lifted os started H enc F)

theorem plain (f : FuncId) (fn : Func) (hf : Tryd.pinned.checked.prog.funcNamed "bourse/bourselaw04.MessageLines" = some f) (hfn : Tryd.pinned.checked.prog.funcs[f]? = some fn) :
    true = Tryd.pinned.checked.prog.looks [] ∧ ∀ (j : Nat) t, fn.params[j]? = some t → Tryd.pinned.checked.prog.wantsStandIn t = false := by
  obtain rfl : f = 3 := Option.some.inj ((show Tryd.prog.funcNamed "bourse/bourselaw04.MessageLines" = some 3 by kernel_rfl).symm.trans hf) |>.symm
  obtain rfl : fn = Tryd.f3 := (Option.some.inj (Tryd.func3.symm.trans hfn)).symm
  refine ⟨by kernel_rfl, fun j t ht => ?_⟩
  rw [Tryd.params3] at ht
  have hm : t = 27 ∨ t = 30 := by simpa using Array.mem_of_getElem? ht
  rcases hm with rfl | rfl
  · exact (show Tryd.prog.wantsStandIn 27 = false by kernel_rfl)
  · exact (show Tryd.prog.wantsStandIn 30 = false by kernel_rfl)

theorem card : Rows.MessageLinesCardSaid :=
  Claim7.holds_tied_plain_at .later [] _ _ _ _ said (fun _ h => by cases h) (by kernel_rfl) (fun _ h => by cases h) messageLines_row_tie rfl ⟨rfl, rfl⟩ (by kernel_rfl) rfl plain (by kernel_rfl)
end Go.Proofs.YtjgjoohdocjpkaaDoor.messageLines
namespace Go.Proofs.YtjgjoohdocjpkaaDoor
theorem messageLines_holds : Rows.MessageLinesCardSaid := messageLines.card
#print axioms messageLines_holds
end Go.Proofs.YtjgjoohdocjpkaaDoor
