/-
  AuctionShift: the walk.
-/
import Derived.Test.YtknikhoobhgidaaShP
import Derived.Test.YtknikhoobhgidaaEmA
namespace Go.Proofs.Ytknikhoobhgidaa
open Go.RowKit Go.Deep Go.Shelf
set_option linter.unusedVariables false
set_option linter.unusedSimpArgs false
set_option maxHeartbeats 4000000
set_option maxRecDepth 100000
theorem Li.price {w : World} {g c : Nat} {l : List It} (h : Li w (Option.some ⟨g, 0, none⟩) c l) {i : Nat} (hi : i < l.length) (q : Int) : Li (w.setCell ⟨g, i * 6 + 4, none⟩ (.int .i64 q)) (Option.some ⟨g, 0, none⟩) c (l.set i { l[i] with pr := q }) := by
  obtain ⟨g', cur, e, hr, hs, hlc, hcm, ht⟩ := h.some (by omega)
  injection e with e
  injection e with e
  subst e
  unfold Li
  rw [List.length_set]
  refine own_ext (Nat.zero_le _) (heap_setCell_same w g (i * 6 + 4) cur 36 _ hr) hlc hcm (by rw [Array.size_setIfInBounds]; exact hs) (by rw [its_len, List.length_set]) (fun j hj => ?_)
  have e1 := its_at (l := l.set i { l[i] with pr := q }) (j := j) (by rw [List.length_set]; exact hj)
  rw [e1, Array.getElem?_setIfInBounds]
  by_cases hj2 : i * 6 + 4 = j
  · rw [if_pos hj2, if_pos (by omega)]
    have e2 : j / 6 = i := by omega
    have e3 : j % 6 = 4 := by omega
    rw [e3]
    simp only [e2, List.getElem_set_self]
    rfl
  · rw [if_neg hj2, Li.curAt ht hj, its_at hj]
    by_cases e2 : j / 6 = i
    · subst e2
      simp only [List.getElem_set_self]
      have e3 : j % 6 ≠ 4 := by omega
      have e4 : j % 6 < 6 := by omega
      obtain ⟨q', hq⟩ : ∃ q, j % 6 = q := ⟨_, rfl⟩
      rw [hq] at e3 e4 ⊢
      rcases q' with _ | _ | _ | _ | _ | _ | q'
      · rfl
      · rfl
      · rfl
      · rfl
      · omega
      · rfl
      · omega
    · simp only [List.getElem_set, show ¬ i = j / 6 from fun e => e2 e.symm, if_false]
theorem Li.iz {w : World} {p : Option Addr} {c : Nat} {l : List It} (h : Li w p c l) : Iz w p l := by
  intro i hi
  obtain ⟨g, e, a0, a1, a2, a3, a4, a5⟩ := h.cells hi
  obtain ⟨cu, hcu⟩ := h.ty e
  refine ⟨g, 0, e, row_lt hcu, fun j hj => ?_⟩
  rw [Nat.zero_add]
  rcases j with _ | _ | _ | _ | _ | _ | j
  · exact a0
  · exact a1
  · exact a2
  · exact a3
  · exact a4
  · exact a5
  · omega
/-- so many are moved. -/
def mvd (d : Int) (T : List It) (i : Nat) : List It := (T.take i).map (mv d) ++ T.drop i
theorem mvd_len (d : Int) (T : List It) (i : Nat) : (mvd d T i).length = T.length := by
  unfold mvd
  rw [List.length_append, List.length_map, ← List.length_append, List.take_append_drop]
theorem mvd_at {d : Int} {T : List It} {i : Nat} (hi : i < T.length) : (mvd d T i)[i]'(by rw [mvd_len]; exact hi) = T[i] := by
  have e : mvd d T i = (T.take i).map (mv d) ++ T[i] :: T.drop (i + 1) := by unfold mvd; rw [← List.drop_eq_getElem_cons hi]
  obtain ⟨h, h2⟩ := at_len (D := (T.take i).map (mv d)) (xs := T.drop (i + 1)) (x := T[i]) (i := i) (by simp; omega)
  simp only [e]
  exact h2
theorem mvd_set {d : Int} {T : List It} {i : Nat} (hi : i < T.length) : (mvd d T i).set i (mv d T[i]) = mvd d T (i + 1) := by
  have e : mvd d T i = (T.take i).map (mv d) ++ T[i] :: T.drop (i + 1) := by unfold mvd; rw [← List.drop_eq_getElem_cons hi]
  rw [e, set_len (by simp; omega)]
  unfold mvd
  rw [List.take_succ_eq_append_getElem hi, List.map_append, List.append_assoc]
  rfl
theorem mvd_same {d : Int} {T : List It} {i : Nat} (hi : i < T.length) (h : mv d T[i] = T[i]) : mvd d T (i + 1) = mvd d T i := by
  rw [← mvd_set hi, h]
  have e : mvd d T i = (T.take i).map (mv d) ++ T[i] :: T.drop (i + 1) := by unfold mvd; rw [← List.drop_eq_getElem_cons hi]
  rw [e, set_len (by simp; omega)]
/-- the copy while it is moved. -/
structure Sm (w2 U : World) (d : Int) (T : List It) (i : Nat) (pm : Option Addr) (cm : Nat) : Prop where
  li : Li U pm cm (mvd d T i)
  ge : ∀ g, OfP pm g → w2.heap.size ≤ g
  be : Below w2.heap.size w2 U
  ok : ∀ x ∈ T.take i, rng d x
theorem ptr_some (B : Nat) (U : World) : (binOp .neq 25 (.pointer (some ⟨B, 0, none⟩)) (.pointer none)).run Try.prog U = .ok (.bool true) U := by kernel_rfl
theorem shift_bad (r : Int) (q : Option Addr) (n cap : Nat) (d : Int) (w : World) (hr : isP r = false) : Calls Try.prog 8 #[.int .i64 r, .slice q n cap, .int .i64 d] w fun e w' => e = .returned (.bool true) ∧ Below w.heap.size w w' := by
  have CL := hid (fun U => lives_any U)
  have CE := hid (fun U => entered_bad r q n cap U hr)
  by_cases h0 : r < 0
  · go_enter Try.func8, Try.ntmps8
    go_wp2_with (first | (go_at_call 9; with_reducible refine (CL.out _).mono ?_; rintro e w1 ⟨rfl, hb⟩; have V1 := hid hb; clear hb) | (go_at_call 10; with_reducible refine (CE.out _).mono ?_; rintro e w2 ⟨rfl, rfl⟩))
    go_ret
    exact ⟨rfl, V1.out⟩
  · have h1 : 262144 ≤ r := by simp only [isP, decide_eq_false_iff_not] at hr; omega
    go_enter Try.func8, Try.ntmps8
    go_wp2_with (first | (go_at_call 9; with_reducible refine (CL.out _).mono ?_; rintro e w1 ⟨rfl, hb⟩; have V1 := hid hb; clear hb) | (go_at_call 10; with_reducible refine (CE.out _).mono ?_; rintro e w2 ⟨rfl, rfl⟩))
    go_ret
    exact ⟨rfl, V1.out⟩
theorem shift_far (r : Int) (q : Option Addr) (cap : Nat) (l : List It) (d : Int) (w : World) (h : Iz w q l) (hm : l.length ≤ maxLen) (hr : isP r = true) (hd : d < -262144 ∨ 262144 < d) : Calls Try.prog 8 #[.int .i64 r, .slice q l.length cap, .int .i64 d] w fun e w' => e = .returned (.bool true) ∧ Below w.heap.size w w' := by
  have CL := hid (fun U => lives_any U)
  have CE := hid (fun (U : World) (hU : Below w.heap.size w U) => entered_eg r q cap l w U hU h hm hr)
  obtain ⟨n, hn⟩ : ∃ n, l.length = n := ⟨_, rfl⟩
  rw [hn] at CE ⊢
  clear h hm hr hn
  have pq := ptr_nil
  have ps := ptr_some
  rcases hd with hd | hd
  · go_enter Try.func8, Try.ntmps8
    go_wp2_with (first | (go_at_call 9; with_reducible refine (CL.out _).mono ?_; rintro e w1 ⟨rfl, hb⟩; have V1 := hid hb; clear hb) | (go_at_call 10; with_reducible refine (CE.out _ V1.out).mono ?_; rintro e w2 ⟨B, pt0, nt0, ct0, rfl, _, E2⟩))
    go_ret
    exact ⟨rfl, E2.out.be⟩
  · have hd2 : ¬ d < -262144 := by omega
    go_enter Try.func8, Try.ntmps8
    go_wp2_with (first | (go_at_call 9; with_reducible refine (CL.out _).mono ?_; rintro e w1 ⟨rfl, hb⟩; have V1 := hid hb; clear hb) | (go_at_call 10; with_reducible refine (CE.out _ V1.out).mono ?_; rintro e w2 ⟨B, pt0, nt0, ct0, rfl, _, E2⟩))
    go_ret
    exact ⟨rfl, E2.out.be⟩
theorem shift_ok (r : Int) (q : Option Addr) (cap : Nat) (l : List It) (d : Int) (w : World) (h : Iz w q l) (hm : l.length ≤ maxLen) (hr : isP r = true) (hd0 : -262144 ≤ d) (hd1 : d ≤ 262144) : Calls Try.prog 8 #[.int .i64 r, .slice q l.length cap, .int .i64 d] w fun e w' => e = .returned (.bool true) ∧ Below w.heap.size w w' := by
  have CL := hid (fun U => lives_any U)
  have CE := hid (fun (U : World) (hU : Below w.heap.size w U) => entered_et r q cap l w U hU h hm hr)
  have HMV := hid (etd_mv (d := d) (m := 4096) l l.length (Nat.le_refl _))
  rw [List.take_of_length_le (Nat.le_refl _)] at HMV
  obtain ⟨xs, hxs⟩ : ∃ x, (etd 4096 l).1 = x := ⟨_, rfl⟩
  obtain ⟨ys, hys⟩ : ∃ x, (etd 4096 l).2.1 = x := ⟨_, rfl⟩
  obtain ⟨T, hT⟩ : ∃ x, (etd 4096 l).2.2 = x := ⟨_, rfl⟩
  rw [hxs, hys, hT] at CE HMV
  obtain ⟨n, hn⟩ : ∃ n, l.length = n := ⟨_, rfl⟩
  rw [hn] at CE ⊢
  obtain ⟨nt, hnt⟩ : ∃ n, T.length = n := ⟨_, rfl⟩
  rw [hnt] at CE
  have HNT := hid hnt
  have hrr : 0 ≤ r ∧ r < 262144 := by simpa [isP] using hr
  clear h hm hr hxs hys hn hT hnt
  have pq := ptr_nil
  have e1 : ¬ d < -262144 := by omega
  have e2 : ¬ 262144 < d := by omega
  go_enter Try.func8, Try.ntmps8
  go_upto_region 6 with (first | (go_at_call 9; with_reducible refine (CL.out _).mono ?_; rintro e w1 ⟨rfl, hb⟩; have V1 := hid hb; clear hb) | (go_at_call 10; with_reducible refine (CE.out _ V1.out).mono ?_; rintro e w2 ⟨B, pt, ct, rfl, E2⟩))
  have hnt4 := E2.out.len
  rw [HNT.out] at hnt4
  have HMD := hid (made0 (w := w2) w2 36 6 (Nat.le_refl w2.heap.size))
  have HTK := hid (show (w2.alloc (.cells #[] 36)).ownsRow 0 36 6 (.slice pt nt ct) nt (its T) from by have := E2.out.li.on (ball w2 (.cells #[] 36)); unfold Li at this; rw [HNT.out] at this; exact this)
  go_upto_region 7 with (at_builtin; refine wpList_app_mine (by rfl) (.tmp 45) (.tmp 46) 22 36 _ 6 48 (by rfl) Try.underlying22 infoIt rfl (by decide) w2.heap.size 0 _ 0 [] (by rfl) HMD.out pt ct nt (its T) (by rfl) HTK.out (its_one T) (by unfold maxLen; omega) (by omega) (by simp) ?_; intro v' w3 hown hgrow; obtain ⟨pm, cm, rfl⟩ := own_form hown; have HO3 := hid hown; have HG3 := hid hgrow; clear hown hgrow)
  have S0 := hid (show Sm w2 w3 d T 0 pm cm from by
    have hO2 : w3.ownsRow w2.heap.size 36 6 (.slice pm (0 + nt) cm) (0 + nt) (its T) := HO3.out
    simp only [Nat.zero_add] at hO2
    refine ⟨?_, fun g hg => ?_, (ball _ _).grown HG3.out (by simp) (fun j hj => by cases hj; exact Nat.le_refl _), by simp⟩
    · unfold Li mvd
      simp only [List.take_zero, List.map_nil, List.nil_append, List.drop_zero]
      rw [HNT.out]
      exact own_base hO2 (Nat.zero_le _)
    · subst hg
      obtain ⟨_, ⟨e1, _⟩ | ⟨g', c', cur, e1, r1, _⟩⟩ := hO2
      · cases (Value.slice.inj e1).1
      · have := (Value.slice.inj e1).1
        injection this with this
        injection this with this
        omega)
  clear HMD HTK HO3 HG3 CE CL
  go_upto_region 8 with fail
  go_loopw [10] (fun iv wr => ∃ i : Nat, i ≤ nt ∧ iv = .int .i64 i ∧ Hid (Sm w2 wr d T i pm cm)) (fun iv _ => nt - (intOf iv).toNat)
  case atStart => exact ⟨0, Nat.zero_le _, rfl, S0⟩
  case round =>
    obtain ⟨i, hin, rfl, HS⟩ := hrel
    clear S0
    by_cases hlt : i < nt
    · have hi : i < T.length := by rw [HNT.out]; exact hlt
      have hi2 : i < (mvd d T i).length := by rw [mvd_len]; exact hi
      have hli := HS.out.li
      obtain ⟨g, hg, a0, a1, a2, a3, a4, a5⟩ := hli.cells hi2
      subst hg
      obtain ⟨cu, hgr⟩ := hli.ty (OfP.mk g)
      have f4 := row_frz hgr (i * 6 + 4)
      have hik := E2.out.ok T[i] (List.getElem_mem hi)
      have HF := hid (fun q => hli.price hi2 q)
      rw [mvd_at hi] at a0 a1 a2 a3 a4 a5 HF
      have HST := hid (mvd_set (d := d) hi)
      have HSM := hid (mvd_same (d := d) hi)
      have HTS := hid (show T.take (i + 1) = T.take i ++ [T[i]] from List.take_succ_eq_append_getElem hi)
      obtain ⟨z, hz⟩ : ∃ z, T[i] = z := ⟨_, rfl⟩
      rw [hz] at a0 a1 a2 a3 a4 a5 hik HF HST HSM HTS
      have zp : 0 ≤ z.pr ∧ z.pr < 262144 := by rcases hik with h | h; exact ⟨h.p0, h.p1⟩; exact ⟨h.p0, h.p1⟩
      have zt : z.ty = 1 ∨ z.ty = 2 := by rcases hik with h | h; exact h.ty; exact h.ty
      have i0 : (0 : Int) ≤ (i : Int) := by omega
      have i1 : (i : Int) < (nt : Int) := by omega
      rcases zt with zt | zt
      · have t1 : (z.ty == 2) = false := by simp [zt]
        have w1 : IntKind.i64.wrap (z.pr + d) = z.pr + d := by rw [IntKind.wrap_i64]; omega
        have hnc : (wr.setCell ⟨g, i * 6 + 4, none⟩ (.int .i64 (z.pr + d))).cell? ⟨g, i * 6 + 4, none⟩ = some (.int .i64 (z.pr + d)) := by
          have hlt : i * 6 + 4 < cu.size := by
            have := row_cell hgr (i * 6 + 4)
            rw [a4] at this
            exact (Array.getElem?_eq_some_iff.1 this.symm).1
          rw [row_cell (heap_setCell_same wr g (i * 6 + 4) cu 36 _ hgr), Array.getElem?_setIfInBounds, if_pos rfl, if_pos hlt]
        have HMZ := hid (show mv d z = { z with pr := z.pr + d } from by unfold mv; rw [if_neg (by omega)])
        have HBE := hid (show Below w2.heap.size w2 (wr.setCell ⟨g, i * 6 + 4, none⟩ (.int .i64 (z.pr + d))) from HS.out.be.trans ((Kp.set wr g (i * 6 + 4) _).below HS.out.be.size (fun b hb e => by have := HS.out.ge g (OfP.mk g); omega)))
        have HZT := hid zt
        clear hz hgr hik hli zt
        by_cases c1 : z.pr + d < 0
        · go_wp2
          go_ret
          exact ⟨rfl, btr E2.out.ec.be HBE.out⟩
        · by_cases c2 : 262144 ≤ z.pr + d
          · go_wp2
            go_ret
            exact ⟨rfl, btr E2.out.ec.be HBE.out⟩
          · go_wp2
            go_roundw
            case rel =>
              refine ⟨i + 1, by omega, by go_num, hid ⟨?_, HS.out.ge, HBE.out, ?_⟩⟩
              · rw [← HST.out, HMZ.out]
                exact HF.out _
              · intro x hx
                rw [HTS.out] at hx
                rcases List.mem_append.1 hx with hx | hx
                · exact HS.out.ok x hx
                · obtain rfl := List.mem_singleton.1 hx
                  exact .inr ⟨by omega, by omega⟩
            case measure => simp [intOf]; omega
      · have t1 : (z.ty == 2) = true := by simp [zt]
        have HMZ := hid (show mv d z = z from by unfold mv; rw [if_pos zt])
        have HZT := hid zt
        clear hz hgr hik hli zt HF
        go_wp2
        go_roundw
        case rel =>
          refine ⟨i + 1, by omega, by go_num, hid ⟨?_, HS.out.ge, HS.out.be, ?_⟩⟩
          · rw [HSM.out HMZ.out]; exact HS.out.li
          · intro x hx
            rw [HTS.out] at hx
            rcases List.mem_append.1 hx with hx | hx
            · exact HS.out.ok x hx
            · obtain rfl := List.mem_singleton.1 hx
              exact .inl HZT.out
        case measure => simp [intOf]; omega
    · obtain rfl : i = nt := by omega
      have hmv := HMV.out (fun x hx => HS.out.ok x (by rw [List.take_of_length_le (by rw [HNT.out]; exact Nat.le_refl _)]; exact hx))
      have hli := HS.out.li
      have em : mvd d T i = T.map (mv d) := by unfold mvd; rw [List.take_of_length_le (by rw [HNT.out]; exact Nat.le_refl _), List.drop_of_length_le (by rw [HNT.out]; exact Nat.le_refl _), List.append_nil]
      rw [em] at hli
      have hlen : (T.map (mv d)).length = i := by rw [List.length_map]; exact HNT.out
      have w1 : IntKind.i64.wrap (r + d) = r + d := by rw [IntKind.wrap_i64]; omega
      have HBW := hid (btr E2.out.ec.be HS.out.be)
      have ET := hid (E2.out.on HS.out.be)
      cases hrd : isP (r + d) with
      | false =>
        have CE2 := hid (entered_bad (r + d) pm i cm wr hrd)
        have hrd2 : r + d < 0 ∨ 262144 ≤ r + d := by simp only [isP, decide_eq_false_iff_not] at hrd; omega
        clear hmv hli em hlen hrd
        by_cases c1 : r + d < 0
        · go_wp2_with (go_at_call 10; with_reducible refine (CE2.out).mono ?_; rintro e w5 ⟨rfl, rfl⟩)
          go_ret
          exact ⟨rfl, HBW.out⟩
        · have c2 : 262144 ≤ r + d := by omega
          go_wp2_with (go_at_call 10; with_reducible refine (CE2.out).mono ?_; rintro e w5 ⟨rfl, rfl⟩)
          go_ret
          exact ⟨rfl, HBW.out⟩
      | true =>
        have CE2 := hid (entered_eg (r + d) pm cm (T.map (mv d)) wr wr (Below.refl _ _) hli.iz (by rw [hlen]; unfold maxLen; omega) hrd)
        rw [hmv, hlen] at CE2
        have HLN := hid (show (xs.map (mv d)).length + (ys.map (mv d)).length = i from by rw [List.length_map, List.length_map, ← List.length_append, ← E2.out.pe.length_eq]; exact HNT.out)
        rw [HLN.out] at CE2
        have HQ2 := hid (quo_sh d r xs ys)
        clear hmv hli em hlen hrd
        go_upto_region 17 with (go_at_call 10; with_reducible refine (CE2.out).mono ?_; rintro e w5 ⟨B2, pt2, nt2, ct2, rfl, N2, G2⟩)
        have hn2 := N2.out
        subst hn2
        have E5 := hid (ET.out.on G2.out.be)
        have CQ := hid (show Calls Try.prog 11 #[.pointer (some ⟨B, 0, none⟩)] w5 fun e w' => e = .returned (.tuple #[.agg (qrow ((quo r xs ys).getD q0)), .bool (quo r xs ys).isSome]) ∧ Hid (Below w5.heap.size w5 w') from by
          obtain ⟨p1, c1, p2, c2, hc⟩ := E5.out.ec.cl
          exact (quote_any B r 4096 p1 c1 xs p2 c2 ys w5 hc).mono (fun e w' h => ⟨h.1, hid h.2⟩))
        have CR := hid (show ∀ (U : World), Below w5.heap.size w5 U → Calls Try.prog 11 #[.pointer (some ⟨B2, 0, none⟩)] U fun e w' => e = .returned (.tuple #[.agg (qrow ((quo (r + d) (xs.map (mv d)) (ys.map (mv d))).getD q0)), .bool (quo (r + d) (xs.map (mv d)) (ys.map (mv d))).isSome]) ∧ Hid (Below U.heap.size U w') from fun U hU => by
          obtain ⟨p1, c1, p2, c2, hc, _⟩ := (G2.out.on hU).cl
          exact (quote_any B2 (r + d) 4096 p1 c1 _ p2 c2 _ U hc).mono (fun e w' h => ⟨h.1, hid h.2⟩))
        have HB5 := hid (btr HBW.out G2.out.be)
        have hsd := E2.out.ec.sides
        rw [HQ2.out] at CR
        clear CE2 w1
        cases hq : quo r xs ys with
        | none =>
          rw [hq] at CQ CR
          change Hid (Calls Try.prog 11 #[.pointer (some ⟨B, 0, none⟩)] w5 fun e w' => e = .returned (.tuple #[.agg #[.int .i64 0, .int .u64 0, .int .u64 0, .int .i64 0, .int .i64 0], .bool false]) ∧ Hid (Below w5.heap.size w5 w')) at CQ
          change Hid (∀ (U : World), Below w5.heap.size w5 U → Calls Try.prog 11 #[.pointer (some ⟨B2, 0, none⟩)] U fun e w' => e = .returned (.tuple #[.agg #[.int .i64 0, .int .u64 0, .int .u64 0, .int .i64 0, .int .i64 0], .bool false]) ∧ Hid (Below U.heap.size U w')) at CR
          clear hq hsd
          have qz := eqZ
          go_upto_region 18 with (go_at_call 11; with_reducible refine (CQ.out).mono ?_; rintro e w6 ⟨rfl, V6⟩)
          obtain ⟨X, hX⟩ : ∃ X, w6.alloc (.cells #[.int .i64 0, .int .u64 0, .int .u64 0, .int .i64 0, .int .i64 0] 30) = X := ⟨_, rfl⟩
          obtain ⟨α, hα⟩ : ∃ g, w6.heap.size = g := ⟨_, rfl⟩
          have BX := hid (show Below w5.heap.size w5 X from by rw [← hX]; exact btr V6.out (ball _ _))
          have HA := hid (show X.heap[α]? = some (.cells #[.int .i64 0, .int .u64 0, .int .u64 0, .int .i64 0, .int .i64 0] 30 (0, 0)) from by rw [← hX, ← hα]; exact World.alloc_heap_new _ _)
          rw [hX, hα]
          clear hX hα
          go_upto_region 19 with (go_at_call 11; with_reducible refine (CR.out _ BX.out).mono ?_; rintro e w7 ⟨rfl, V7⟩)
          obtain ⟨Y, hY⟩ : ∃ X, w7.alloc (.cells #[.int .i64 0, .int .u64 0, .int .u64 0, .int .i64 0, .int .i64 0] 30) = X := ⟨_, rfl⟩
          obtain ⟨β, hβ⟩ : ∃ g, w7.heap.size = g := ⟨_, rfl⟩
          have BY := hid (show Below X.heap.size X Y from by rw [← hY]; exact btr V7.out (ball _ _))
          have HBB := hid (show Y.heap[β]? = some (.cells #[.int .i64 0, .int .u64 0, .int .u64 0, .int .i64 0, .int .i64 0] 30 (0, 0)) from by rw [← hY, ← hβ]; exact World.alloc_heap_new _ _)
          rw [hY, hβ]
          clear hY hβ
          obtain ⟨x0, x1, x2, x3, x4⟩ := row5 (row_on HA.out BY.out)
          obtain ⟨y0, y1, y2, y3, y4⟩ := row5 HBB.out
          go_wp2
          go_ret
          exact ⟨by simp, btr HB5.out (btr BX.out BY.out)⟩
        | some z =>
          rw [hq] at CQ CR
          change Hid (Calls Try.prog 11 #[.pointer (some ⟨B, 0, none⟩)] w5 fun e w' => e = .returned (.tuple #[.agg #[.int .i64 z.pr, .int .u64 z.vo, .int .u64 z.su, .int .i64 z.sd, .int .i64 z.ru], .bool true]) ∧ Hid (Below w5.heap.size w5 w')) at CQ
          change Hid (∀ (U : World), Below w5.heap.size w5 U → Calls Try.prog 11 #[.pointer (some ⟨B2, 0, none⟩)] U fun e w' => e = .returned (.tuple #[.agg #[.int .i64 (z.pr + d), .int .u64 z.vo, .int .u64 z.su, .int .i64 z.sd, .int .i64 z.ru], .bool true]) ∧ Hid (Below U.heap.size U w')) at CR
          have zp : 0 ≤ z.pr ∧ z.pr < 262144 := by
            obtain ⟨p, hp, k, hz, _, _⟩ := quo_at hq
            have e1 : z.pr = p := by rw [hz]; exact qAt_pr _ _ _
            rw [e1]
            exact pcs_ok hrr.1 hrr.2 hsd.1 hsd.2 p hp
          have w1 : IntKind.i64.wrap (z.pr + d) = z.pr + d := by rw [IntKind.wrap_i64]; omega
          have qz := fun U => eqQ (sh d z) (sh d z) U
          simp only [decide_true] at qz
          change ∀ (U : World), (Op.equalIn 10000 30 (.agg #[.int .i64 (z.pr + d), .int .u64 z.vo, .int .u64 z.su, .int .i64 z.sd, .int .i64 z.ru]) (.agg #[.int .i64 (z.pr + d), .int .u64 z.vo, .int .u64 z.su, .int .i64 z.sd, .int .i64 z.ru])).run Try.prog U = .ok true U at qz
          clear hq hsd
          go_upto_region 18 with (go_at_call 11; with_reducible refine (CQ.out).mono ?_; rintro e w6 ⟨rfl, V6⟩)
          obtain ⟨X, hX⟩ : ∃ X, w6.alloc (.cells #[.int .i64 z.pr, .int .u64 z.vo, .int .u64 z.su, .int .i64 z.sd, .int .i64 z.ru] 30) = X := ⟨_, rfl⟩
          obtain ⟨α, hα⟩ : ∃ g, w6.heap.size = g := ⟨_, rfl⟩
          have BX := hid (show Below w5.heap.size w5 X from by rw [← hX]; exact btr V6.out (ball _ _))
          have HA := hid (show X.heap[α]? = some (.cells #[.int .i64 z.pr, .int .u64 z.vo, .int .u64 z.su, .int .i64 z.sd, .int .i64 z.ru] 30 (0, 0)) from by rw [← hX, ← hα]; exact World.alloc_heap_new _ _)
          have HAG := hid (show w5.heap.size ≤ α from by rw [← hα]; exact V6.out.size)
          rw [hX, hα]
          clear hX hα
          go_upto_region 19 with (go_at_call 11; with_reducible refine (CR.out _ BX.out).mono ?_; rintro e w7 ⟨rfl, V7⟩)
          obtain ⟨Y, hY⟩ : ∃ X, w7.alloc (.cells #[.int .i64 (z.pr + d), .int .u64 z.vo, .int .u64 z.su, .int .i64 z.sd, .int .i64 z.ru] 30) = X := ⟨_, rfl⟩
          obtain ⟨β, hβ⟩ : ∃ g, w7.heap.size = g := ⟨_, rfl⟩
          have BY := hid (show Below X.heap.size X Y from by rw [← hY]; exact btr V7.out (ball _ _))
          have HBB := hid (show Y.heap[β]? = some (.cells #[.int .i64 (z.pr + d), .int .u64 z.vo, .int .u64 z.su, .int .i64 z.sd, .int .i64 z.ru] 30 (0, 0)) from by rw [← hY, ← hβ]; exact World.alloc_heap_new _ _)
          have HNE := hid (show β ≠ α from by have := row_lt (row_on HA.out V7.out); rw [← hβ]; omega)
          rw [hY, hβ]
          clear hY hβ
          have HAY := hid (row_on HA.out BY.out)
          obtain ⟨x0, x1, x2, x3, x4⟩ := row5 HAY.out
          have f0 := row_frz HAY.out 0
          go_upto_region 21 with fail
          obtain ⟨Z, hZ⟩ : ∃ Z, Y.setCell ⟨α, 0, none⟩ (.int .i64 (z.pr + d)) = Z := ⟨_, rfl⟩
          have KZ := hid (show Kp (fun b => b = α) Y Z from by rw [← hZ]; exact Kp.set _ _ _ _)
          have HAZ := hid (show Z.heap[α]? = some (.cells #[.int .i64 (z.pr + d), .int .u64 z.vo, .int .u64 z.su, .int .i64 z.sd, .int .i64 z.ru] 30 (0, 0)) from by rw [← hZ]; exact heap_setCell_same Y α 0 _ 30 _ HAY.out)
          have HBZ := hid (KZ.out.row HBB.out HNE.out)
          rw [hZ]
          clear hZ x0 x1 x2 x3 x4 f0
          obtain ⟨x0, x1, x2, x3, x4⟩ := row5 HAZ.out
          obtain ⟨y0, y1, y2, y3, y4⟩ := row5 HBZ.out
          go_wp2
          go_ret
          refine ⟨by simp, btr HB5.out ?_⟩
          have hb := btr BX.out BY.out
          exact hb.trans (KZ.out.below hb.size (fun b hb e => by have := HAG.out; omega))
theorem shift_walk (r : Int) (q : Option Addr) (cap : Nat) (l : List It) (d : Int) (w : World) (h : Iz w q l) (hm : l.length ≤ maxLen) : Calls Try.prog 8 #[.int .i64 r, .slice q l.length cap, .int .i64 d] w fun e w' => e = .returned (.bool true) ∧ Below w.heap.size w w' := by
  cases hr : isP r with
  | false => exact shift_bad r q l.length cap d w hr
  | true =>
    by_cases hd : d < -262144 ∨ 262144 < d
    · exact shift_far r q cap l d w h hm hr hd
    · exact shift_ok r q cap l d w h hm hr (by omega) (by omega)
end Go.Proofs.Ytknikhoobhgidaa
