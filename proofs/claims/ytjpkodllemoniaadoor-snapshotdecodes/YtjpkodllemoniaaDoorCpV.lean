/-
  The document's Valid, of any book. Written by mkCpV.py.
-/
import Derived.Test.YtjpkodllemoniaaDoorCpE
import Derived.Test.YtjpkodllemoniaaDoorRcG
import Derived.Test.YtjpkodllemoniaaDoorRcF
import Derived.Test.YtjpkodllemoniaaDoorRcE0
namespace Go.Proofs.YtjpkodllemoniaaDoor.Cp
open Go.RowKit Go.Deep
open Go.Proofs.YtjpkodllemoniaaDoor.Sr (bt SrR RtW RtOk AllOk Crs BoOk Bo bor Rt Rz rtr)
set_option linter.unusedVariables false
set_option linter.unusedSimpArgs false
set_option maxHeartbeats 8000000
set_option maxRecDepth 100000
attribute [local go_sem ↓] Go.wp_at_zero Go.wp_at_succ
theorem own_empty {w : World} {g base : Nat} {e : TypeId} {size : Nat} (h : w.heap[g]? = some (.cells #[] e (0, 0))) (hb : base ≤ g) : w.ownsRow base e size (.slice (some ⟨g, 0, none⟩) 0 0) 0 [] :=
  ⟨by simp, .inr ⟨g, 0, #[], rfl, hb, h, Nat.le_refl _, Nat.zero_le _, by simp, by simp⟩⟩
theorem own_lo {base : Nat} {w : World} {e : TypeId} {size n : Nat} {v : Value} {xs : List Value} (h : w.ownsRow base e size v n xs) {j : Nat} (hj : v.ownBlock = some j) : base ≤ j := by
  obtain ⟨h1, ⟨rfl, _⟩ | ⟨g, c, cur, rfl, r1, r⟩⟩ := h
  · cases hj
  · cases hj; exact r1
theorem step_osz {w : World} {ops : Array Oper} {oo : Oper} {a : Act} {K : Act → World → Prop} {Q : Exit → Act → World → Prop} {E : Prop} (hgd : oo.guard = none) (s x : Operand)
    (ho : oo.op = .call { callee := .builtin .append, args := #[s, x], argTypes := #[24, 24] })
    (base : Nat) (v : Value) (m : Nat) (ys : List Value) (hs : a.eval s = v) (hown : w.ownsRow base 46 7 v m ys)
    (q : Option Addr) (c : Nat) (os : List Or) (n : Nat) (hos : os.length = n) (hx : a.eval x = .slice q n c) (ho2 : Osz w q os) (hq : q = none → n = 0 ∧ c = 0)
    (hbytes : (m + n) * 56 ≤ 140737488355328) (hbase : base ≤ w.heap.size)
    (h : ∀ v' w', w'.ownsRow base 46 7 v' (m + n) (ys ++ ors os) → w.grownBy w' v.ownBlock → K (a.put oo.dst v') w') : if Region.wanted oo (yielded ops a.tmps) = true then Oper.wp Tryd.prog oo a w K Q else E := by
  have hw : Region.wanted oo (yielded ops a.tmps) = true := by simp [Region.wanted, hgd]
  rw [if_pos hw]
  obtain ⟨i0, hi, hz0, hz1, hz2⟩ := info_parts infoX33all
  subst hos
  cases q with
  | none =>
    obtain ⟨h0, rfl⟩ := hq rfl
    have hnil : os = [] := List.length_eq_zero_iff.1 h0
    subst hnil
    have hrun := run_append_owned_none (P := Tryd.prog) (w := w) base 24 oo.type 46 i0 7 Tryd.underlying24 hi v m ys hown
    unfold Oper.wp
    simp [execOp, ho, resolve, invoke, builtin, hs, hx, hrun, Result.andThen]
    exact h v w (by simpa [ors] using hown) ⟨rfl, rfl, rfl, Nat.le_refl _, fun _ _ _ => rfl⟩
  | some ad =>
    exact wp_append_own _ s x 24 ho base 46 i0 _ 7 56 Tryd.underlying24 hi hz0 hz1 hz2 rfl (by decide) v m ys hs hown ad os.length c (ors os) hx (ors_len _) (fun j u hj => by
      have hl : j < os.length * 7 := by rw [← ors_len]; exact (List.getElem?_eq_some_iff.1 hj).1
      obtain ⟨b, off, hq', _⟩ := ho2 0 (by omega)
      injection hq' with hq'
      subst hq'
      exact osz_get ho2 hj) (ors_one _) (by unfold maxLen; omega) hbytes hbase (fun v' w' h2 h3 _ => h v' w' h2 h3)
theorem ors_app (x y : List Or) : ors (x ++ y) = ors x ++ ors y := by simp [ors]
theorem osz_ol {w : World} {q : Option Addr} {l : List Or} (h : Osz w q l) : Sr.Ol w q l := fun i hi => by
  obtain ⟨b, off, e, hb, hc⟩ := h i hi
  exact ⟨b, off, e, hb, fun j hj => (hc j hj).trans (by rw [Array.getElem?_toList]; rfl)⟩
theorem own_rz {base : Nat} {w : World} {p : Option Addr} {c n : Nat} {l : List Or} (hn : l.length = n) (h : w.ownsRow base 46 7 (.slice p n c) n (ors l)) : Rz w p l := fun i hi => by
  subst hn
  obtain ⟨h1, ⟨e, e2⟩ | ⟨g, c', cur, e, r1, r2, r3, r4, r5, r6⟩⟩ := h
  · omega
  · have hc : ∀ j, j < 7 → w.cell? ⟨g, i * 7 + j, none⟩ = (orow l[i]).toList[j]? := fun j hj => by
      have := congrArg (fun z => z[i * 7 + j]?) r6
      have hlt : i * 7 + j < l.length * 7 := by omega
      simp only [List.getElem?_take, hlt, if_true, Array.getElem?_toList] at this
      rw [row_cell r2, this, ors_get hi hj]
    exact ⟨g, (Value.slice.inj e).1, row_lt r2, hc 0 (by decide), hc 1 (by decide), hc 2 (by decide), hc 3 (by decide), hc 4 (by decide), hc 5 (by decide), hc 6 (by decide)⟩
theorem dcfg_any (cap meet : Int) (b : Bool) (hb : b = true ↔ ((1 ≤ cap ∧ cap ≤ 4096) ∧ 0 ≤ meet ∧ meet ≤ 3)) (w : World) :
    Calls Tryd.prog 36 #[.agg #[.int .i64 cap, .int .i64 meet]] w fun e w' => e = .returned (.bool b) ∧ Below w.heap.size w w' := by
  have no : ¬ ((1 ≤ cap ∧ cap ≤ 4096) ∧ 0 ≤ meet ∧ meet ≤ 3) → b = false := fun c => by
    rw [Bool.eq_false_iff]
    exact fun e => c (hb.1 e)
  by_cases h0 : 1 ≤ cap
  · have d0 : decide (1 ≤ cap) = true := decide_eq_true h0
    by_cases h1 : cap ≤ 4096
    · have d1 : decide (cap ≤ 4096) = true := decide_eq_true h1
      by_cases h2 : 0 ≤ meet
      · have d2 : decide (0 ≤ meet) = true := decide_eq_true h2
        have e : b = decide (meet ≤ 3) := by
          rw [Bool.eq_iff_iff, hb]
          simp only [decide_eq_true_eq]
          omega
        subst e
        clear hb no
        go_enter Tryd.func36, Tryd.ntmps36
        go_wp2
        go_ret
        exact ⟨rfl, ball _ _⟩
      · obtain rfl := no (by omega)
        have d2 : decide (0 ≤ meet) = false := decide_eq_false h2
        clear hb no h0 h1 h2
        go_enter Tryd.func36, Tryd.ntmps36
        go_wp2
        go_ret
        exact ⟨rfl, ball _ _⟩
    · obtain rfl := no (by omega)
      have d1 : decide (cap ≤ 4096) = false := decide_eq_false h1
      clear hb no h0 h1
      go_enter Tryd.func36, Tryd.ntmps36
      go_wp2
      go_ret
      exact ⟨rfl, ball _ _⟩
  · obtain rfl := no (by omega)
    have d0 : decide (1 ≤ cap) = false := decide_eq_false h0
    clear hb no h0
    go_enter Tryd.func36, Tryd.ntmps36
    go_wp2
    go_ret
    exact ⟨rfl, ball _ _⟩
theorem grow_row {w w' : World} {o : Option Nat} (h : w.grownBy w' o) {R : Nat} {x : Obj} (hr : w.heap[R]? = some x) (hne : ∀ j, o = some j → j ≠ R) : w'.heap[R]? = some x := by
  obtain ⟨h1, h2, h3, h4, h5⟩ := h
  rw [h5 R (row_lt hr) (fun e => hne R e.symm rfl)]
  exact hr
theorem own_ne {base : Nat} {w : World} {n : Nat} {v : Value} {xs : List Value} {R : Nat} {cs : Array Value} (h : w.ownsRow base 46 7 v n xs) (hr : w.heap[R]? = some (.cells cs 27 (0, 0))) : ∀ j, v.ownBlock = some j → j ≠ R := fun j hj => by
  obtain ⟨cur, hc⟩ := own_ty h hj
  exact row_ne hc hr (by decide)
theorem allok_app {h : Int} {b s : List Rt} : AllOk h (b ++ s) ↔ AllOk h b ∧ AllOk h s := by
  unfold AllOk
  constructor
  · intro hh
    refine ⟨fun i hi => ?_, fun i hi => ?_⟩
    · have := hh i (by rw [List.length_append]; omega)
      rw [List.getElem_append_left hi] at this
      exact this
    · have := hh (b.length + i) (by rw [List.length_append]; omega)
      rw [List.getElem_append_right (by omega)] at this
      simpa using this
  · rintro ⟨h1, h2⟩ i hi
    by_cases c : i < b.length
    · rw [List.getElem_append_left c]; exact h1 i c
    · rw [List.getElem_append_right (by omega)]; exact h2 _ _
theorem dvalid_any (cap meet : Int) (pb ps : Option Addr) (cb cs n m : Nat) (b s : List Or) (high seq E : Int) (hE : (BoOk ⟨cap, meet, pb, cb, b, ps, cs, s, high, seq⟩ ∧ E = 0) ∨ (¬ BoOk ⟨cap, meet, pb, cb, b, ps, cs, s, high, seq⟩ ∧ E = 120)) (w : World) (hb : Osz w pb b) (hs : Osz w ps s)
    (hbn : pb = none → n = 0 ∧ cb = 0) (hsn : ps = none → m = 0 ∧ cs = 0) (hnl : b.length = n) (hml : s.length = m) (hw1 : ∀ i (hi : i < b.length), RtW b[i]) (hw2 : ∀ i (hi : i < s.length), RtW s[i]) (hbig : n ≤ 4000000000000 ∧ m ≤ 4000000000000) :
    Calls Tryd.prog 19 #[.agg #[.int .i64 cap, .int .i64 meet, .slice pb n cb, .slice ps m cs, .int .u64 high, .int .u64 seq]] w fun e w' => e = .returned (.int .i64 E) ∧ Below w.heap.size w w' := by
  have no : ¬ BoOk ⟨cap, meet, pb, cb, b, ps, cs, s, high, seq⟩ → E = 120 := fun c => by
    rcases hE with h | h
    · exact absurd h.1 c
    · exact h.2
  obtain ⟨k0, hk0⟩ : ∃ b, decide ((1 ≤ cap ∧ cap ≤ 4096) ∧ 0 ≤ meet ∧ meet ≤ 3) = b := ⟨_, rfl⟩
  have CC := hid (fun U => dcfg_any cap meet k0 (by rw [← hk0]; exact decide_eq_true_iff) U)
  have ws : IntKind.i64.wrap ((n : Int) + (m : Int)) = (n : Int) + (m : Int) := by rw [IntKind.wrap_i64]; omega
  have few := no ∘ (fun (hh : cap < (n : Int) + (m : Int) ∨ k0 = false) (ok : BoOk ⟨cap, meet, pb, cb, b, ps, cs, s, high, seq⟩) => by
    have h1 := ok.few
    have h2 := ok.cfg
    simp only at h1 h2
    rw [hnl, hml] at h1
    rcases hh with h | h
    · omega
    · rw [h] at hk0; exact absurd h2 (of_decide_eq_false hk0))
  have few2 : 4096 < (n : Int) ∨ 4096 < (m : Int) → E = 120 := fun hh => by
    cases k0 with
    | false => exact few (.inr rfl)
    | true =>
      have h2 := of_decide_eq_true hk0
      exact few (.inl (by omega))
  cases k0 with
  | false =>
    have hEE := few (.inr rfl)
    subst hEE
    clear few few2 no hE hk0 hw1 hw2 hb hs hbn hsn hnl hml
    obtain ⟨W, hW⟩ : ∃ W, w.alloc (.cells #[.int .i64 cap, .int .i64 meet, .slice pb n cb, .slice ps m cs, .int .u64 high, .int .u64 seq] 27) = W := ⟨_, rfl⟩
    obtain ⟨R, hR⟩ : ∃ R, w.heap.size = R := ⟨_, rfl⟩
    have HB := hid (show Below w.heap.size w W from by rw [← hW]; exact ball _ _)
    have HR := hid (show W.heap[R]? = some (.cells #[.int .i64 cap, .int .i64 meet, .slice pb n cb, .slice ps m cs, .int .u64 high, .int .u64 seq] 27 (0, 0)) from by rw [← hW, ← hR]; exact World.alloc_heap_new _ _)
    have HLO := hid (show w.heap.size ≤ R from Nat.le_of_eq hR)
    have HH := hid (fun (U : World) (hU : Below W.heap.size W U) => row6 (row_on HR.out hU))
    obtain ⟨c0, c1, c2, c3, c4, c5⟩ := HH.out W (Below.refl _ _)
    go_enter Tryd.func19, Tryd.ntmps19
    go_upto_region 1 with fail
    clear hW hR
    go_wp2_with (go_at_call 36; with_reducible refine (CC.out _).mono ?_; rintro e w1 ⟨rfl, h1⟩; obtain ⟨d0, d1, d2, d3, d4, d5⟩ := HH.out _ h1; have H1 := hid h1; clear h1)
    go_ret
    exact ⟨rfl, btr HB.out H1.out⟩
  | true =>
  by_cases hn1 : 4096 < (n : Int)
  · have dn : decide (4096 < (n : Int)) = true := decide_eq_true hn1
    have dn2 : decide (4096 < n) = true := decide_eq_true (by omega)
    have hEE := few2 (.inl hn1)
    subst hEE
    clear few few2 no hE hk0 hw1 hw2 hb hs hbn hsn hnl hml
    obtain ⟨W, hW⟩ : ∃ W, w.alloc (.cells #[.int .i64 cap, .int .i64 meet, .slice pb n cb, .slice ps m cs, .int .u64 high, .int .u64 seq] 27) = W := ⟨_, rfl⟩
    obtain ⟨R, hR⟩ : ∃ R, w.heap.size = R := ⟨_, rfl⟩
    have HB := hid (show Below w.heap.size w W from by rw [← hW]; exact ball _ _)
    have HR := hid (show W.heap[R]? = some (.cells #[.int .i64 cap, .int .i64 meet, .slice pb n cb, .slice ps m cs, .int .u64 high, .int .u64 seq] 27 (0, 0)) from by rw [← hW, ← hR]; exact World.alloc_heap_new _ _)
    have HLO := hid (show w.heap.size ≤ R from Nat.le_of_eq hR)
    have HH := hid (fun (U : World) (hU : Below W.heap.size W U) => row6 (row_on HR.out hU))
    obtain ⟨c0, c1, c2, c3, c4, c5⟩ := HH.out W (Below.refl _ _)
    go_enter Tryd.func19, Tryd.ntmps19
    go_upto_region 1 with fail
    clear hW hR
    go_wp2_with (go_at_call 36; with_reducible refine (CC.out _).mono ?_; rintro e w1 ⟨rfl, h1⟩; obtain ⟨d0, d1, d2, d3, d4, d5⟩ := HH.out _ h1; have H1 := hid h1; clear h1)
    go_ret
    exact ⟨rfl, btr HB.out H1.out⟩
  by_cases hm1 : 4096 < (m : Int)
  · have dn : decide (4096 < n) = false := decide_eq_false (by omega)
    have dm2 : decide (4096 < m) = true := decide_eq_true (by omega)
    have hEE := few2 (.inr hm1)
    subst hEE
    clear few few2 no hE hk0 hw1 hw2 hb hs hbn hsn hnl hml
    obtain ⟨W, hW⟩ : ∃ W, w.alloc (.cells #[.int .i64 cap, .int .i64 meet, .slice pb n cb, .slice ps m cs, .int .u64 high, .int .u64 seq] 27) = W := ⟨_, rfl⟩
    obtain ⟨R, hR⟩ : ∃ R, w.heap.size = R := ⟨_, rfl⟩
    have HB := hid (show Below w.heap.size w W from by rw [← hW]; exact ball _ _)
    have HR := hid (show W.heap[R]? = some (.cells #[.int .i64 cap, .int .i64 meet, .slice pb n cb, .slice ps m cs, .int .u64 high, .int .u64 seq] 27 (0, 0)) from by rw [← hW, ← hR]; exact World.alloc_heap_new _ _)
    have HLO := hid (show w.heap.size ≤ R from Nat.le_of_eq hR)
    have HH := hid (fun (U : World) (hU : Below W.heap.size W U) => row6 (row_on HR.out hU))
    obtain ⟨c0, c1, c2, c3, c4, c5⟩ := HH.out W (Below.refl _ _)
    go_enter Tryd.func19, Tryd.ntmps19
    go_upto_region 1 with fail
    clear hW hR
    go_wp2_with (go_at_call 36; with_reducible refine (CC.out _).mono ?_; rintro e w1 ⟨rfl, h1⟩; obtain ⟨d0, d1, d2, d3, d4, d5⟩ := HH.out _ h1; have H1 := hid h1; clear h1)
    go_ret
    exact ⟨rfl, btr HB.out H1.out⟩
  have dn : decide (4096 < n) = false := decide_eq_false (by omega)
  have dm : decide (4096 < m) = false := decide_eq_false (by omega)
  by_cases hf : cap < (n : Int) + (m : Int)
  · have df : decide (cap < (n : Int) + (m : Int)) = true := decide_eq_true hf
    have hEE := few (.inl hf)
    subst hEE
    clear few few2 no hE hk0 hw1 hw2 hb hs hbn hsn hnl hml
    obtain ⟨W, hW⟩ : ∃ W, w.alloc (.cells #[.int .i64 cap, .int .i64 meet, .slice pb n cb, .slice ps m cs, .int .u64 high, .int .u64 seq] 27) = W := ⟨_, rfl⟩
    obtain ⟨R, hR⟩ : ∃ R, w.heap.size = R := ⟨_, rfl⟩
    have HB := hid (show Below w.heap.size w W from by rw [← hW]; exact ball _ _)
    have HR := hid (show W.heap[R]? = some (.cells #[.int .i64 cap, .int .i64 meet, .slice pb n cb, .slice ps m cs, .int .u64 high, .int .u64 seq] 27 (0, 0)) from by rw [← hW, ← hR]; exact World.alloc_heap_new _ _)
    have HLO := hid (show w.heap.size ≤ R from Nat.le_of_eq hR)
    have HH := hid (fun (U : World) (hU : Below W.heap.size W U) => row6 (row_on HR.out hU))
    obtain ⟨c0, c1, c2, c3, c4, c5⟩ := HH.out W (Below.refl _ _)
    go_enter Tryd.func19, Tryd.ntmps19
    go_upto_region 1 with fail
    clear hW hR
    go_wp2_with (go_at_call 36; with_reducible refine (CC.out _).mono ?_; rintro e w1 ⟨rfl, h1⟩; obtain ⟨d0, d1, d2, d3, d4, d5⟩ := HH.out _ h1; have H1 := hid h1; clear h1)
    go_ret
    exact ⟨rfl, btr HB.out H1.out⟩
  have df : decide (cap < (n : Int) + (m : Int)) = false := decide_eq_false hf
  have hcf := of_decide_eq_true hk0
  have HBZ := hid hb
  have HSZ := hid hs
  have HBN := hid hbn
  have HSN := hid hsn
  have HNL := hid hnl
  have HML := hid hml
  obtain ⟨kA, hkA⟩ : ∃ z, decide (AllOk high (b ++ s)) = z := ⟨_, rfl⟩
  obtain ⟨kT, hkT⟩ : ∃ z, decide ((b ++ s).map Rt.id).Nodup = z := ⟨_, rfl⟩
  obtain ⟨k1, hk1⟩ : ∃ z, decide (SrR 1 b) = z := ⟨_, rfl⟩
  obtain ⟨k2, hk2⟩ : ∃ z, decide (SrR 2 s) = z := ⟨_, rfl⟩
  obtain ⟨k3, hk3⟩ : ∃ z, decide (Crs b s) = z := ⟨_, rfl⟩
  have LA := hid (show ¬ AllOk high (b ++ s) → E = 120 from fun e => no (fun ok => e (allok_app.2 ⟨ok.okb, ok.oks⟩)))
  have LT := hid (show kT = false → E = 120 from fun e => no (fun ok => by rw [e] at hkT; have := ok.one; simp only at this; rw [← List.map_append] at this; exact absurd this (of_decide_eq_false hkT)))
  have L1 := hid (show k1 = false → E = 120 from fun e => no (fun ok => by rw [e] at hk1; exact absurd ok.sb (of_decide_eq_false hk1)))
  have L2 := hid (show k2 = false → E = 120 from fun e => no (fun ok => by rw [e] at hk2; exact absurd ok.ss (of_decide_eq_false hk2)))
  have L3 := hid (show Crs b s → E = 120 from fun e => no (fun ok => absurd e ok.apart))
  have LY := hid (show AllOk high (b ++ s) → kT = true → k1 = true → k2 = true → ¬ Crs b s → E = 0 from fun e1 e2 e3 e4 e5 => by
    rw [e2] at hkT
    rw [e3] at hk1
    rw [e4] at hk2
    rcases hE with h | h
    · exact h.2
    · refine absurd ⟨hcf, ?_, of_decide_eq_true hk1, of_decide_eq_true hk2, e5, (allok_app.1 e1).1, (allok_app.1 e1).2, ?_⟩ h.1
      · simp only
        rw [hnl, hml]
        omega
      · simp only
        rw [← List.map_append]
        exact of_decide_eq_true hkT)
  have HWD := hid (show ∀ i (hi : i < (b ++ s).length), RtW (b ++ s)[i] from fun i hi => by
    by_cases c : i < b.length
    · rw [List.getElem_append_left c]; exact hw1 i c
    · rw [List.getElem_append_right (by omega)]; exact hw2 _ _)
  have HLA := hid (show (b ++ s).length = n + m from by rw [List.length_append, hnl, hml])
  have CT := hid (fun (U : World) (q : Option Addr) (d : Nat) (hU : Rz U q (b ++ s)) => show Calls Tryd.prog 38 #[.slice q (n + m) d] U fun e w' => e = .returned (.bool (!kT)) ∧ Below U.heap.size U w' from by
    have := Sr.dtwice_any q d (b ++ s) U hU (by rw [List.length_append, hnl, hml]; omega)
    rw [hkT, List.length_append, hnl, hml] at this
    exact this)
  have CS1 := hid (fun (U : World) (hU : Below w.heap.size w U) => show Calls Tryd.prog 39 #[.int .i64 1, .slice pb n cb] U fun e w' => e = .returned (.bool k1) ∧ Below U.heap.size U w' from by
    have := Sr.dsorted_any 1 pb cb b U (osz_ol (hb.on hU)) (by omega)
    rw [hk1, hnl] at this
    exact this)
  have CS2 := hid (fun (U : World) (hU : Below w.heap.size w U) => show Calls Tryd.prog 39 #[.int .i64 2, .slice ps m cs] U fun e w' => e = .returned (.bool k2) ∧ Below U.heap.size U w' from by
    have := Sr.dsorted_any 2 ps cs s U (osz_ol (hs.on hU)) (by omega)
    rw [hk2, hml] at this
    exact this)
  clear few few2 no hE hk0 hw1 hw2 hb hs hbn hsn hnl hml hkA hkT hk1 hk2 hk3 hcf
  obtain ⟨W, hW⟩ : ∃ W, w.alloc (.cells #[.int .i64 cap, .int .i64 meet, .slice pb n cb, .slice ps m cs, .int .u64 high, .int .u64 seq] 27) = W := ⟨_, rfl⟩
  obtain ⟨R, hR⟩ : ∃ R, w.heap.size = R := ⟨_, rfl⟩
  have HB := hid (show Below w.heap.size w W from by rw [← hW]; exact ball _ _)
  have HR := hid (show W.heap[R]? = some (.cells #[.int .i64 cap, .int .i64 meet, .slice pb n cb, .slice ps m cs, .int .u64 high, .int .u64 seq] 27 (0, 0)) from by rw [← hW, ← hR]; exact World.alloc_heap_new _ _)
  have HLO := hid (show w.heap.size ≤ R from Nat.le_of_eq hR)
  have HH := hid (fun (U : World) (hU : Below W.heap.size W U) => row6 (row_on HR.out hU))
  obtain ⟨c0, c1, c2, c3, c4, c5⟩ := HH.out W (Below.refl _ _)
  go_enter Tryd.func19, Tryd.ntmps19
  go_upto_region 1 with fail
  clear hW hR
  go_upto_region 3 with (go_at_call 36; with_reducible refine (CC.out _).mono ?_; rintro e w1 ⟨rfl, h1⟩; obtain ⟨d0, d1, d2, d3, d4, d5⟩ := HH.out _ h1; have H1 := hid h1; clear h1)
  clear c0 c1 c2 c3 c4 c5 d0 d1 d2 d3 d4 d5
  have HR := hid (row_on HR.out H1.out)
  have HB := hid (btr HB.out H1.out)
  obtain ⟨W, hW⟩ : ∃ W, W = w1 := ⟨_, rfl⟩
  subst hW
  obtain ⟨V1, hV1⟩ : ∃ U, W.drew = U := ⟨_, rfl⟩
  have bV1 := hid (show Below W.heap.size W V1 from by rw [← hV1]; exact bdrew1 _)
  have DV1 := hid (btr HB.out bV1.out)
  have r2 := hid (row_on HR.out bV1.out)
  refine wp_region_held_drew (S := (fun U => U.cell? ⟨R, 2, none⟩ = some (.slice pb n cb) ∧ U.cell? ⟨R, 3, none⟩ = some (.slice ps m cs))) (by kernel_rfl) ?_ (fun hHeld => ?_)
  · (try dsimp only); rw [hV1]; exact ⟨row_cell r2.out 2, row_cell r2.out 3⟩
  rw [hV1] at hHeld ⊢
  clear hV1
  refine' wpAnyH_take (i := 1) (oi := _) (v := _) rfl (by kernel_rfl) (by kernel_rfl) (by kernel_rfl) (fun _ _ _ h => h) (Or.inl ⟨by kernel_rfl, ?_⟩) (by assumption) ?_
  rotate_left
  · (intro w hSw; (try dsimp only at hSw); go_simp; try (with_reducible rfl))
  try simp only [List.getElem_toArray, List.getElem_cons_succ, List.getElem_cons_zero, Act.put, List.setIfInBounds_toArray, List.set_cons_zero, List.set_cons_succ]
  refine' wpAnyH_take (i := 2) (oi := _) (v := _) rfl (by kernel_rfl) (by kernel_rfl) (by kernel_rfl) (fun _ _ _ h => h) (Or.inl ⟨by kernel_rfl, ?_⟩) (by assumption) ?_
  rotate_left
  · (intro w hSw; (try dsimp only at hSw); go_simp; try (with_reducible rfl))
  try simp only [List.getElem_toArray, List.getElem_cons_succ, List.getElem_cons_zero, Act.put, List.setIfInBounds_toArray, List.set_cons_zero, List.set_cons_succ]
  refine' wpAnyH_take (i := 4) (oi := _) (v := _) rfl (by kernel_rfl) (by kernel_rfl) (by kernel_rfl) (fun _ _ _ h => h) (Or.inl ⟨by kernel_rfl, ?_⟩) (by assumption) ?_
  rotate_left
  · (intro w hSw; (try dsimp only at hSw); go_simp; try (with_reducible rfl))
  try simp only [List.getElem_toArray, List.getElem_cons_succ, List.getElem_cons_zero, Act.put, List.setIfInBounds_toArray, List.set_cons_zero, List.set_cons_succ]
  refine' wpAnyH_take (i := 5) (oi := _) (v := _) rfl (by kernel_rfl) (by kernel_rfl) (by kernel_rfl) (fun _ _ _ h => h) (Or.inl ⟨by kernel_rfl, ?_⟩) (by assumption) ?_
  rotate_left
  · (intro w hSw; (try dsimp only at hSw); go_simp; try (with_reducible rfl))
  try simp only [List.getElem_toArray, List.getElem_cons_succ, List.getElem_cons_zero, Act.put, List.setIfInBounds_toArray, List.set_cons_zero, List.set_cons_succ]
  refine wpAnyH_ready (rs := [0]) (by kernel_rfl) (by simp) ?_
  refine (AllReadyH.cons (o := _) rfl (fun K hK => ?_) AllReadyH.nil)
  go_simp
  obtain ⟨X3, hX3⟩ : ∃ X, V1.alloc (.cells #[] 46) = X := ⟨_, rfl⟩
  have bX3 := hid (show Below V1.heap.size V1 X3 from by rw [← hX3]; exact ball _ _)
  have zX3 : X3.heap[V1.heap.size]? = some (.cells #[] 46 (0, 0)) := by rw [← hX3]; exact World.alloc_heap_new _ _
  have DX3 := hid (btr DV1.out bX3.out)
  have r5 := hid (row_on r2.out bX3.out)
  obtain ⟨g4, hg4⟩ : ∃ g, V1.heap.size = g := ⟨_, rfl⟩
  have ne6 := hid (show R ≠ g4 from by have := row_lt r2.out; omega)
  have yg4 := hid (Nat.le_trans DV1.out.size (Nat.le_refl _))
  rw [hg4] at zX3 yg4
  have ZX3 := hid zX3
  rw [hX3, hg4]
  clear hX3 hg4 zX3
  refine hK.out _ _ ?_ (fun hHeld => ?_)
  · (try dsimp only); exact ⟨row_cell r5.out 2, row_cell r5.out 3⟩
  clear hK K
  try simp only [List.getElem_toArray, List.getElem_cons_succ, List.getElem_cons_zero, Act.put, List.setIfInBounds_toArray, List.set_cons_zero, List.set_cons_succ]
  refine wpAnyH_ready (rs := [3]) (by kernel_rfl) (by simp) ?_
  refine (AllReadyH.cons (o := _) rfl (fun K hK => ?_) AllReadyH.nil)
  refine step_osz (by rfl) (.tmp 34) (.tmp 36) (by rfl) w.heap.size _ 0 [] (by rfl) (own_empty (size := 7) ZX3.out yg4.out) pb cb b n HNL.out (by rfl) (HBZ.out.on DX3.out) HBN.out (by omega) DX3.out.size (fun v5 w5 hown hgrow => ?_)
  obtain ⟨q5, d5, rfl⟩ := own_form hown
  have O5 := hid hown
  have B5 := hid (show Below w.heap.size w w5 from DX3.out.grown hgrow DX3.out.size (fun j hj => own_lo (own_empty (size := 7) ZX3.out yg4.out) hj))
  have R5 := hid (show w5.heap[R]? = _ from grow_row hgrow r5.out (own_ne (own_empty (size := 7) ZX3.out yg4.out) r5.out))
  clear hown hgrow
  refine hK.out _ _ ?_ (fun hHeld => ?_)
  · (try dsimp only); exact ⟨row_cell R5.out 2, row_cell R5.out 3⟩
  clear hK K
  try simp only [List.getElem_toArray, List.getElem_cons_succ, List.getElem_cons_zero, Act.put, List.setIfInBounds_toArray, List.set_cons_zero, List.set_cons_succ]
  refine wpAnyH_ready (rs := [6]) (by kernel_rfl) (by simp) ?_
  refine (AllReadyH.cons (o := _) rfl (fun K hK => ?_) AllReadyH.nil)
  refine step_osz (by rfl) (.tmp 37) (.tmp 39) (by rfl) w.heap.size _ (0 + n) _ (by rfl) O5.out ps cs s m HML.out (by rfl) (HSZ.out.on B5.out) HSN.out (by omega) B5.out.size (fun v6 w6 hown hgrow => ?_)
  obtain ⟨q6, d6, rfl⟩ := own_form hown
  have O6 := hid hown
  have B6 := hid (show Below w.heap.size w w6 from B5.out.grown hgrow B5.out.size (fun j hj => own_lo O5.out hj))
  have R6 := hid (show w6.heap[R]? = _ from grow_row hgrow R5.out (own_ne O5.out R5.out))
  clear hown hgrow
  refine hK.out _ _ ?_ (fun hHeld => ?_)
  · (try dsimp only); exact ⟨row_cell R6.out 2, row_cell R6.out 3⟩
  clear hK K
  try simp only [List.getElem_toArray, List.getElem_cons_succ, List.getElem_cons_zero, Act.put, List.setIfInBounds_toArray, List.set_cons_zero, List.set_cons_succ]
  refine' wpAnyH_take (i := 7) (oi := _) (v := _) rfl (by kernel_rfl) (by kernel_rfl) (by kernel_rfl) (fun _ _ _ h => h) (Or.inl ⟨by kernel_rfl, ?_⟩) (by assumption) ?_
  rotate_left
  · (intro w hSw; (try dsimp only at hSw); go_simp; try (with_reducible rfl))
  try simp only [List.getElem_toArray, List.getElem_cons_succ, List.getElem_cons_zero, Act.put, List.setIfInBounds_toArray, List.set_cons_zero, List.set_cons_succ]
  refine wpAnyH_done (by kernel_rfl) ?_ _
  have HNM : 0 + n + m = n + m := by omega
  rw [HNM] at O6 ⊢
  have OA := hid (show w6.ownsRow w.heap.size 46 7 (.slice q6 (n + m) d6) (n + m) (ors (b ++ s)) from by rw [ors_app]; exact O6.out)
  have RZ := hid (own_rz (l := b ++ s) HLA.out OA.out)
  have HB6 := hid B6.out
  go_upto_region 5 with fail
  go_loopw [4] (fun iv wr => ∃ i : Nat, iv = .int .i64 i ∧ i ≤ n + m ∧ Hid (∀ j (hj : j < (b ++ s).length), j < i → RtOk high (b ++ s)[j]) ∧ Hid (Below w6.heap.size w6 wr)) (fun iv _ => n + m - (intOf iv).toNat)
  case atStart => exact ⟨0, rfl, by omega, hid (fun j _ h => absurd h (by omega)), hid (Below.refl _ _)⟩
  case round =>
    obtain ⟨i, rfl, i2, HS, HX⟩ := hrel
    have HBr := hid (btr B6.out HX.out)
    have HRr := hid (row_on R6.out HX.out)
    by_cases hi : i < n + m
    · have ii : (i : Int) < ((n + m : Nat) : Int) := by omega
      have ii2 : (i : Int) < (n : Int) + (m : Int) := by omega
      have ii0 : (0 : Int) ≤ (i : Int) := by omega
      have wi : IntKind.i64.wrap ((i : Int) + 1) = ((i + 1 : Nat) : Int) := by rw [IntKind.wrap_i64]; omega
      have hil : i < (b ++ s).length := by rw [HLA.out]; exact hi
      obtain ⟨g, rfl⟩ := Sr.rz_id RZ.out hil
      have HCL0 := hid (fun (U : World) (hU : Below w6.heap.size w6 U) => show U.cell? ⟨g, i * 7, none⟩ = some (.int .u64 (b ++ s)[i].id) ∧ U.cell? ⟨g, i * 7 + 1, none⟩ = some (.int .u32 (b ++ s)[i].mb) ∧ U.cell? ⟨g, i * 7 + 2, none⟩ = some (.int .i64 (b ++ s)[i].ty) ∧ U.cell? ⟨g, i * 7 + 3, none⟩ = some (.int .i64 (b ++ s)[i].pr) ∧ U.cell? ⟨g, i * 7 + 4, none⟩ = some (.int .u64 (b ++ s)[i].vi) ∧ U.cell? ⟨g, i * 7 + 5, none⟩ = some (.int .u64 (b ++ s)[i].hi) ∧ U.cell? ⟨g, i * 7 + 6, none⟩ = some (.int .u64 (b ++ s)[i].pk) from by
        obtain ⟨g', e, _, a0, a1, a2, a3, a4, a5, a6⟩ := (RZ.out.on hU) i hil
        injection e with e; injection e with e; subst e
        exact ⟨a0, a1, a2, a3, a4, a5, a6⟩)
      have HWX := hid (HWD.out i hil)
      have HS2 := hid (show RtOk high (b ++ s)[i] → ∀ j (hj : j < (b ++ s).length), j < i + 1 → RtOk high (b ++ s)[j] from fun h j hj hji => by
        by_cases c : j = i
        · subst c; exact h
        · exact HS.out j hj (by omega))
      have HNO := hid (show ¬ RtOk high (b ++ s)[i] → E = 120 from fun h => LA.out (fun ha => h (ha i hil)))
      obtain ⟨z, hz⟩ : ∃ z, (b ++ s)[i]'hil = z := ⟨_, rfl⟩
      rw [hz] at HCL0 HWX HS2 HNO
      obtain ⟨kz, hkz⟩ : ∃ kz, decide (RtOk high z) = kz := ⟨_, rfl⟩
      have CO := hid (fun (U : World) => Sr.dorder_any z high HWX.out kz (by rw [← hkz]; exact decide_eq_true_iff) U)
      have HKZ := hid hkz
      obtain ⟨zid, zmb, zty, zpr, zvi, zhi, zpk⟩ := z
      unfold Sr.rtr at CO
      dsimp only at HCL0 CO
      have HCL := hid (fun (U : World) (hU : Below w.heap.size w U) (hU6 : Below w6.heap.size w6 U) => HCL0.out U hU6)
      have HI0 := hid hi
      clear hz hil hkz HS HWX hi
      go_upto_region 7 with fail
      have HXr := hid HX.out
      obtain ⟨V11, hV11⟩ : ∃ U, wr.drew = U := ⟨_, rfl⟩
      have bV11 := hid (show Below wr.heap.size wr V11 from by rw [← hV11]; exact bdrew1 _)
      have DV11 := hid (btr HXr.out bV11.out)
      have r12 := hid (row_on HRr.out bV11.out)
      refine wp_region_held_drew (S := (fun U => U.cell? ⟨g, i * 7, none⟩ = some (.int .u64 zid) ∧ U.cell? ⟨g, i * 7 + 1, none⟩ = some (.int .u32 zmb) ∧ U.cell? ⟨g, i * 7 + 2, none⟩ = some (.int .i64 zty) ∧ U.cell? ⟨g, i * 7 + 3, none⟩ = some (.int .i64 zpr) ∧ U.cell? ⟨g, i * 7 + 4, none⟩ = some (.int .u64 zvi) ∧ U.cell? ⟨g, i * 7 + 5, none⟩ = some (.int .u64 zhi) ∧ U.cell? ⟨g, i * 7 + 6, none⟩ = some (.int .u64 zpk) ∧ U.cell? ⟨R, 4, none⟩ = some (.int .u64 high))) (by kernel_rfl) ?_ (fun hHeld => ?_)
      · (try dsimp only); rw [hV11]; exact ⟨(HCL0.out _ DV11.out).1, (HCL0.out _ DV11.out).2.1, (HCL0.out _ DV11.out).2.2.1, (HCL0.out _ DV11.out).2.2.2.1, (HCL0.out _ DV11.out).2.2.2.2.1, (HCL0.out _ DV11.out).2.2.2.2.2.1, (HCL0.out _ DV11.out).2.2.2.2.2.2, row_cell r12.out 4⟩
      rw [hV11] at hHeld ⊢
      clear hV11
      refine' wpAnyH_take (i := 0) (oi := _) (v := _) rfl (by kernel_rfl) (by kernel_rfl) (by kernel_rfl) (fun _ _ _ h => h) (Or.inl ⟨by kernel_rfl, ?_⟩) (by assumption) ?_
      rotate_left
      · (intro w hSw; (try dsimp only at hSw); go_simp; try (with_reducible rfl))
      try simp only [List.getElem_toArray, List.getElem_cons_succ, List.getElem_cons_zero, Act.put, List.setIfInBounds_toArray, List.set_cons_zero, List.set_cons_succ]
      refine' wpAnyH_take (i := 1) (oi := _) (v := _) rfl (by kernel_rfl) (by kernel_rfl) (by kernel_rfl) (fun _ _ _ h => h) (Or.inl ⟨by kernel_rfl, ?_⟩) (by assumption) ?_
      rotate_left
      · (intro w hSw; (try dsimp only at hSw); go_simp; try (with_reducible rfl))
      try simp only [List.getElem_toArray, List.getElem_cons_succ, List.getElem_cons_zero, Act.put, List.setIfInBounds_toArray, List.set_cons_zero, List.set_cons_succ]
      refine' wpAnyH_take (i := 2) (oi := _) (v := _) rfl (by kernel_rfl) (by kernel_rfl) (by kernel_rfl) (fun _ _ _ h => h) (Or.inl ⟨by kernel_rfl, ?_⟩) (by assumption) ?_
      rotate_left
      · (intro w hSw; (try dsimp only at hSw); go_simp; try (with_reducible rfl))
      try simp only [List.getElem_toArray, List.getElem_cons_succ, List.getElem_cons_zero, Act.put, List.setIfInBounds_toArray, List.set_cons_zero, List.set_cons_succ]
      refine' wpAnyH_take (i := 3) (oi := _) (v := _) rfl (by kernel_rfl) (by kernel_rfl) (by kernel_rfl) (fun _ _ _ h => h) (Or.inl ⟨by kernel_rfl, ?_⟩) (by assumption) ?_
      rotate_left
      · (intro w hSw; (try dsimp only at hSw); go_simp; try (with_reducible rfl))
      try simp only [List.getElem_toArray, List.getElem_cons_succ, List.getElem_cons_zero, Act.put, List.setIfInBounds_toArray, List.set_cons_zero, List.set_cons_succ]
      refine' wpAnyH_take (i := 4) (oi := _) (v := _) rfl (by kernel_rfl) (by kernel_rfl) (by kernel_rfl) (fun _ _ _ h => h) (Or.inl ⟨by kernel_rfl, ?_⟩) (by assumption) ?_
      rotate_left
      · (intro w hSw; (try dsimp only at hSw); go_simp; try (with_reducible rfl))
      try simp only [List.getElem_toArray, List.getElem_cons_succ, List.getElem_cons_zero, Act.put, List.setIfInBounds_toArray, List.set_cons_zero, List.set_cons_succ]
      refine' wpAnyH_take (i := 5) (oi := _) (v := _) rfl (by kernel_rfl) (by kernel_rfl) (by kernel_rfl) (fun _ _ _ h => h) (Or.inl ⟨by kernel_rfl, ?_⟩) (by assumption) ?_
      rotate_left
      · (intro w hSw; (try dsimp only at hSw); go_simp; try (with_reducible rfl))
      try simp only [List.getElem_toArray, List.getElem_cons_succ, List.getElem_cons_zero, Act.put, List.setIfInBounds_toArray, List.set_cons_zero, List.set_cons_succ]
      refine wpAnyH_ready (rs := [6]) (by kernel_rfl) (by simp) ?_
      refine (AllReadyH.cons (o := _) rfl (fun K hK => ?_) AllReadyH.nil)
      go_simp
      go_at_call 37
      with_reducible refine (CO.out V11).mono ?_
      rintro e X13 ⟨rfl, cX13⟩
      have bX13 := hid cX13
      clear cX13
      have DX13 := hid (btr DV11.out bX13.out)
      have r14 := hid (row_on r12.out bX13.out)
      (try go_wp2_with fail)
      refine hK.out _ _ ?_ (fun hHeld => ?_)
      · (try dsimp only); exact ⟨(HCL0.out _ DX13.out).1, (HCL0.out _ DX13.out).2.1, (HCL0.out _ DX13.out).2.2.1, (HCL0.out _ DX13.out).2.2.2.1, (HCL0.out _ DX13.out).2.2.2.2.1, (HCL0.out _ DX13.out).2.2.2.2.2.1, (HCL0.out _ DX13.out).2.2.2.2.2.2, row_cell r14.out 4⟩
      clear hK K
      try simp only [List.getElem_toArray, List.getElem_cons_succ, List.getElem_cons_zero, Act.put, List.setIfInBounds_toArray, List.set_cons_zero, List.set_cons_succ]
      refine' wpAnyH_take (i := 7) (oi := _) (v := _) rfl (by kernel_rfl) (by kernel_rfl) (by kernel_rfl) (fun _ _ _ h => h) (Or.inl ⟨by kernel_rfl, ?_⟩) (by assumption) ?_
      rotate_left
      · (intro w hSw; (try dsimp only at hSw); go_simp; try (with_reducible rfl))
      try simp only [List.getElem_toArray, List.getElem_cons_succ, List.getElem_cons_zero, Act.put, List.setIfInBounds_toArray, List.set_cons_zero, List.set_cons_succ]
      refine wpAnyH_done (by kernel_rfl) ?_ _
      have HA := hid DX13.out
      have HRA := hid r14.out
      obtain ⟨V1, hV1⟩ : ∃ V, X13 = V := ⟨_, rfl⟩
      rw [hV1] at HA HRA ⊢
      clear hV1
      cases kz with
      | false =>
        have e := HNO.out (of_decide_eq_false HKZ.out)
        subst e
        clear LA LT L1 L2 L3 LY HNO HS2 HKZ
        go_wp2
        go_ret
        exact ⟨rfl, btr HB6.out HA.out⟩
      | true =>
        go_wp2
        go_roundw
        case rel => exact ⟨_, _, _, _, _, _, _, _, _, _, _, _, _, _, _, _, ⟨i + 1, by go_num, HI0.out, hid (HS2.out (of_decide_eq_true HKZ.out)), HA⟩, by first | rfl | (rw [Nat.zero_add]; rfl) | (simp only [Nat.zero_add]; rfl) | simp only [Nat.zero_add] | (simp [Nat.zero_add]; done)⟩
        case measure => have := HI0.out; first | (simp [intOf]; done) | (simp [intOf]; omega)
    · have hin : i = n + m := by omega
      have ii : ¬ (i : Int) < ((n + m : Nat) : Int) := by omega
      have di : decide ((i : Int) < ((n + m : Nat) : Int)) = false := decide_eq_false ii
      have di2 : decide ((i : Int) < (n : Int) + (m : Int)) = false := decide_eq_false (by omega)
      have HAL := hid (show AllOk high (b ++ s) from fun j hj => HS.out j hj (by rw [hin, ← HLA.out]; exact hj))
      have RZ2 := hid (RZ.out.on HX.out)
      obtain ⟨e0, e1, e2, e3, e4, e5⟩ := row6 HRr.out
      clear hin HS HX i2
      cases kT with
      | false =>
        simp only [Bool.not_false] at CT
        have e := LT.out rfl
        subst e
        clear LA LT L1 L2 L3 LY HAL
        go_wp2_with (first | (go_at_call 38; with_reducible refine (CT.out _ _ _ RZ2.out).mono ?_; rintro e w7 ⟨rfl, h7⟩; obtain ⟨f0, f1, f2, f3, f4, f5⟩ := row6 (row_on HRr.out h7); have HR7 := hid (row_on HRr.out h7); have H7 := hid (btr HBr.out h7); clear h7))
        go_ret
        exact ⟨rfl, H7.out⟩
      | true =>
      simp only [Bool.not_true] at CT
      cases k1 with
      | false =>
        have e := L1.out rfl
        subst e
        clear LA LT L1 L2 L3 LY HAL
        go_wp2_with (first | (go_at_call 38; with_reducible refine (CT.out _ _ _ RZ2.out).mono ?_; rintro e w7 ⟨rfl, h7⟩; obtain ⟨f0, f1, f2, f3, f4, f5⟩ := row6 (row_on HRr.out h7); have HR7 := hid (row_on HRr.out h7); have H7 := hid (btr HBr.out h7); clear h7) | (go_at_call 39; with_reducible refine (CS1.out _ H7.out).mono ?_; rintro e w8 ⟨rfl, h8⟩; obtain ⟨g0, g1, g2, g3, g4, g5⟩ := row6 (row_on HR7.out h8); have HR8 := hid (row_on HR7.out h8); have H8 := hid (btr H7.out h8); clear h8))
        go_ret
        exact ⟨rfl, H8.out⟩
      | true =>
      cases k2 with
      | false =>
        have e := L2.out rfl
        subst e
        clear LA LT L1 L2 L3 LY HAL
        go_wp2_with (first | (go_at_call 38; with_reducible refine (CT.out _ _ _ RZ2.out).mono ?_; rintro e w7 ⟨rfl, h7⟩; obtain ⟨f0, f1, f2, f3, f4, f5⟩ := row6 (row_on HRr.out h7); have HR7 := hid (row_on HRr.out h7); have H7 := hid (btr HBr.out h7); clear h7) | (go_at_call 39; with_reducible refine (CS1.out _ H7.out).mono ?_; rintro e w8 ⟨rfl, h8⟩; obtain ⟨g0, g1, g2, g3, g4, g5⟩ := row6 (row_on HR7.out h8); have HR8 := hid (row_on HR7.out h8); have H8 := hid (btr H7.out h8); clear h8) | (go_at_call 39; with_reducible refine (CS2.out _ H8.out).mono ?_; rintro e w9 ⟨rfl, h9⟩; have HR9 := hid (row_on HR8.out h9); have H9 := hid (btr H8.out h9); clear h9))
        go_ret
        exact ⟨rfl, H9.out⟩
      | true =>
      have HE3 := hid (show ¬ Crs b s → E = 0 from LY.out HAL.out rfl rfl rfl)
      clear LA LT L1 L2 LY HAL
      go_upto_region 11 with (first | (go_at_call 38; with_reducible refine (CT.out _ _ _ RZ2.out).mono ?_; rintro e w7 ⟨rfl, h7⟩; obtain ⟨f0, f1, f2, f3, f4, f5⟩ := row6 (row_on HRr.out h7); have HR7 := hid (row_on HRr.out h7); have H7 := hid (btr HBr.out h7); clear h7) | (go_at_call 39; with_reducible refine (CS1.out _ H7.out).mono ?_; rintro e w8 ⟨rfl, h8⟩; obtain ⟨g0, g1, g2, g3, g4, g5⟩ := row6 (row_on HR7.out h8); have HR8 := hid (row_on HR7.out h8); have H8 := hid (btr H7.out h8); clear h8) | (go_at_call 39; with_reducible refine (CS2.out _ H8.out).mono ?_; rintro e w9 ⟨rfl, h9⟩; have HR9 := hid (row_on HR8.out h9); have H9 := hid (btr H8.out h9); clear h9))
      clear e0 e1 e2 e3 e4 e5 f0 f1 f2 f3 f4 f5 g0 g1 g2 g3 g4 g5
      obtain ⟨e0, e1, e2, e3, e4, e5⟩ := row6 HR9.out
      by_cases hn0 : 0 < n
      · by_cases hm0 : 0 < m
        · have hb0 : 0 < b.length := by rw [HNL.out]; exact hn0
          have hs0 : 0 < s.length := by rw [HML.out]; exact hm0
          obtain ⟨gb, ob, hpb, -, hcb⟩ := (HBZ.out.on H9.out) 0 hb0
          subst hpb
          obtain ⟨gs, osf, hps, -, hcs⟩ := (HSZ.out.on H9.out) 0 hs0
          subst hps
          have p1 : w9.cell? ⟨gb, ob + 3, none⟩ = some (.int .i64 (b[0]).pr) := by have := hcb 3 (by decide); simpa [orow] using this
          have p2 : w9.cell? ⟨gs, osf + 3, none⟩ = some (.int .i64 (s[0]).pr) := by have := hcs 3 (by decide); simpa [orow] using this
          have HC3 := hid (show Crs b s ↔ (s[0]).pr ≤ (b[0]).pr from ⟨fun ⟨_, _, h⟩ => h, fun h => ⟨hb0, hs0, h⟩⟩)
          obtain ⟨u, hu⟩ : ∃ u, (b[0]'hb0).pr = u := ⟨_, rfl⟩
          obtain ⟨v, hv⟩ : ∃ u, (s[0]'hs0).pr = u := ⟨_, rfl⟩
          rw [hu] at p1 HC3
          rw [hv] at p2 HC3
          have n0 : (0 : Int) < (n : Int) := by omega
          have m0 : (0 : Int) < (m : Int) := by omega
          have dn0 : decide (0 < n) = true := decide_eq_true hn0
          have dm0 : decide (0 < m) = true := decide_eq_true hm0
          by_cases hx : v ≤ u
          · have e := L3.out (HC3.out.2 hx)
            subst e
            have dx : decide (v ≤ u) = true := decide_eq_true hx
            clear L3 HE3 HC3 hcb hcs hu hv hb0 hs0 hn0 hm0
            go_big_quiet (fail)
            go_wp2
            go_ret
            exact ⟨rfl, btr H9.out (bdrew _ _)⟩
          · have e := HE3.out (fun c => hx (HC3.out.1 c))
            subst e
            have dx : decide (v ≤ u) = false := decide_eq_false hx
            clear L3 HE3 HC3 hcb hcs hu hv hb0 hs0 hn0 hm0
            go_big_quiet (fail)
            go_wp2
            go_ret
            exact ⟨rfl, btr H9.out (bdrew _ _)⟩
        · have e := HE3.out (fun ⟨_, h, _⟩ => hm0 (by rw [← HML.out]; exact h))
          subst e
          have n0 : (0 : Int) < (n : Int) := by omega
          have dn0 : decide (0 < n) = true := decide_eq_true hn0
          have dm0 : decide (0 < m) = false := decide_eq_false hm0
          have dm1 : decide ((0 : Int) < (m : Int)) = false := decide_eq_false (by omega)
          clear L3 HE3 hn0 hm0
          go_big_quiet (fail)
          go_wp2
          go_ret
          exact ⟨rfl, btr H9.out (bdrew _ _)⟩
      · have e := HE3.out (fun ⟨h, _, _⟩ => hn0 (by rw [← HNL.out]; exact h))
        subst e
        have dn0 : decide (0 < n) = false := decide_eq_false hn0
        have dn1 : decide ((0 : Int) < (n : Int)) = false := decide_eq_false (by omega)
        clear L3 HE3 hn0
        go_big_quiet (fail)
        go_wp2
        go_ret
        exact ⟨rfl, btr H9.out (bdrew _ _)⟩
end Go.Proofs.YtjpkodllemoniaaDoor.Cp
