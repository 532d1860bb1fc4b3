/-
  TextPieces: the walk.
-/
import Derived.Test.YtolabllgnfpfaaaDoorTpG
import Derived.BigQuiet
import Derived.Deep.QuietTactic
namespace Go.Proofs.YtolabllgnfpfaaaDoor
open Go.RowKit Go.Deep Go.Lib Go.Shelf Go.Sort
set_option linter.unusedVariables false
set_option linter.unusedSimpArgs false

/-- one line tells itself. -/
theorem drain_one {k : List UInt8} {m : List (Int × List UInt8)} (h : encE k m = 0) : drain (lineB k m) = ([lineB k m], []) := by
  have hl : (lineB k m).length ≤ 2048 := by
    unfold encE at h
    split at h
    · cases h
    · split at h
      · cases h
      · split at h
        · split at h
          · cases h
          · omega
        · contradiction
  have ho := outE_line k m [] hl
  rw [List.append_nil] at ho
  have hd := decR_line k m [] h
  rw [List.append_nil] at hd
  have hw : ¬ Waits (lineB k m) := by
    unfold Waits
    rw [ho]
    show ¬ (0 : Int) = 20
    decide
  have hn : nxR (lineB k m) = ([], k, m, true, 0) := by
    unfold nxR
    rw [ho, hd]
    simp only
    rw [if_neg (by decide), if_neg (by decide)]
    have : (aheadB k m).length + 7 = (lineB k m).length := by unfold lineB; rw [List.length_append, trailB_len]
    rw [this, List.drop_length]
    rfl
  rw [drain_step hw, hn]
  simp only
  rw [drain_wait waits_nil]
  have ht : tl (lineB k m) = [lineB k m] := by
    unfold tl
    rw [hn]
    simp only [if_true]
    unfold encB
    rw [if_pos h]
  rw [ht]
  rfl
theorem body_len : (bodyB [48] []).length ≤ 24 := by
  unfold bodyB
  rw [List.length_append, fieldB_len]
  have := nDigits_le20 35 (by decide)
  simp
  omega
theorem line_len : (lineB [48] []).length ≤ 2048 := by
  rw [lineB_len]
  have h1 := body_len
  have := nDigits_le20 (bodyB [48] []).length (by omega)
  omega
theorem enc_zero : encE [48] [] = 0 := by
  unfold encE
  rw [if_neg (by decide), if_neg (by decide), if_pos (by rfl), if_neg (by have := line_len; omega)]
theorem owns_str {w : World} {B : Nat} {v : Value} {D : List (List UInt8)} (h : w.ownsRow B 9 1 v D.length (sv D)) (i : Nat) (hi : i < D.length) : ∃ g c, v = .slice (some ⟨g, 0, none⟩) D.length c ∧ w.cell? ⟨g, i, none⟩ = some (.string ⟨D[i].toArray⟩) := by
  rcases h.2 with ⟨_, e⟩ | ⟨g, cap, cur, rfl, r⟩
  · omega
  · refine ⟨g, cap, rfl, ?_⟩
    rw [World.ownsRow.cellAt h i (by omega)]
    simp [sv, hi]
theorem owns_form {w : World} {B : Nat} {v : Value} {D : List (List UInt8)} (h : w.ownsRow B 9 1 v D.length (sv D)) : ∃ p c, v = .slice p D.length c := by
  rcases h.2 with ⟨e, e2⟩ | ⟨g, cap, cur, e, _⟩
  · exact ⟨none, 0, by rw [e2]; exact e⟩
  · exact ⟨_, _, e⟩
theorem ownsS_on {B n : Nat} {w w' : World} {v : Value} {xs : List Value} (h : w.ownsRow B 9 1 v n xs) (hb : Below w.heap.size w w') : w'.ownsRow B 9 1 v n xs := ownsS_same h (fun g e => hb.block g (h.lt g e).2)
theorem vs_nil (w : World) : Vs w none [] := fun i h => by simp at h
set_option maxHeartbeats 2000000 in
set_option maxRecDepth 100000 in
theorem pieces_walk (b : List UInt8) (q : Option Addr) (cap : Nat) (zs : List Int) (p : Option Addr) (zc : Nat) (often : Bool) (w : World) (hS : Sg w q cap b) (hc : b.length ≤ cap) (hz : zs.length < 9223372036854775807) (hV : Vs w p zs) (hM : LayM w) :
    Calls Tryd.prog 4 #[.slice q b.length cap, .slice p zs.length zc, .bool often] w fun e w' => e = .returned (.bool true) ∧ Below w.heap.size w w' := by
  by_cases hb : 65536 < b.length
  · have i1 : (65536 : Int) < (b.length : Int) := by omega
    have NR := hid (rnew_any w)
    clear hb
    go_enter Tryd.func4, Tryd.ntmps4
    go_wp2_with (first | (go_at_call 5; refine (NR.out).mono ?_; rintro e w1 ⟨rfl, h1, hb, _⟩; have HB1 := hid hb; clear h1 hb))
    go_ret
    exact ⟨rfl, HB1.out⟩
  have i1 : ¬ (65536 : Int) < (b.length : Int) := by omega
  have hb' : b.length ≤ 65536 := by omega
  have L1 := hid (lines_any b q cap [] none 0 false w hS hb' hc (by simp) (vs_nil w) hM)
  have L2 := hid (show ∀ w', Below w.heap.size w w' → _ from fun w' hbl => lines_any b q cap zs p zc often w' (hS.on hbl) hb' hc hz (fun i hi => by obtain ⟨b', o', e, h1, h2⟩ := hV i hi; exact ⟨b', o', e, Nat.lt_of_lt_of_le h1 hbl.size, (hbl.cell h1).trans h2⟩) (hM.on hbl))
  have HM := hid hM
  have HS := hid hS
  obtain ⟨D, hD⟩ : ∃ D, (drain b).1 = D := ⟨_, rfl⟩
  have hDl : D.length ≤ 65536 := by rw [← hD]; have := drain_len _ b (Nat.le_refl _); omega
  rw [hD] at L1
  simp only [hD] at L2
  have i2 : (D.length : Int) ≤ 65536 := by omega
  clear hS hM hV hb hb' hc hz hD hDl
  go_enter Tryd.func4, Tryd.ntmps4
  go_wp2_with (first | (go_at_call 15; refine (L1.out).mono ?_; rintro e w1 ⟨v1, rfl, ho, hbl⟩; have HO1 := hid ho; have HB1 := hid hbl; clear ho hbl; refine Hid.out ?_))
  refine hid ?_
  go_wp2_with (first | (go_at_call 15; refine (L2.out _ HB1.out).mono ?_; rintro e w2 ⟨v2, rfl, ho, hbl⟩; have HO2 := hid ho; have HP1 := hid (ownsS_on HO1.out hbl); have HB2 := hid (btr' HB1.out hbl); clear ho hbl; refine Hid.out ?_))
  clear L1 L2 HO1 HB1
  obtain ⟨p1, c1, rfl⟩ := owns_form HP1.out
  obtain ⟨p2, c2, rfl⟩ := owns_form HO2.out
  have ne0 : ((D.length : Int) != (D.length : Int)) = false := by simp
  refine hid ?_
  go_wp2_with fail
  go_loopw [11] (fun iv wr => ∃ i : Nat, i ≤ D.length ∧ iv = .int .i64 i ∧ Hid (Below w2.heap.size w2 wr)) (fun iv _ => D.length - (RowKit.intOf iv).toNat)
  case atStart => exact ⟨0, Nat.zero_le _, rfl, hid (Below.refl _ _)⟩
  case round =>
    obtain ⟨i, hi, rfl, HBR⟩ := hrel
    by_cases hlt : i < D.length
    · obtain ⟨g1, d1, e1, q1⟩ := owns_str (ownsS_on HP1.out HBR.out) i hlt
      obtain ⟨g2, d2, e2, q2⟩ := owns_str (ownsS_on HO2.out HBR.out) i hlt
      obtain ⟨rfl, rfl⟩ : p1 = some ⟨g1, 0, none⟩ ∧ c1 = d1 := by simpa using e1
      obtain ⟨rfl, rfl⟩ : p2 = some ⟨g2, 0, none⟩ ∧ c2 = d2 := by simpa using e2
      obtain ⟨s, hs⟩ : ∃ s, D[i] = s := ⟨_, rfl⟩
      rw [hs] at q1 q2
      have i3 : (i : Int) < (D.length : Int) := by omega
      have i4 : (0 : Int) ≤ (i : Int) := by omega
      have HLT := hid hlt
      clear e1 e2 hs hlt
      go_wp2
      go_quiet (fail)
      go_wp2
      go_roundw
      case rel => exact ⟨i + 1, by have := HLT.out; omega, by go_num, hid (HBR.out.trans ⟨rfl, rfl, rfl, Nat.le_refl _, fun _ _ => rfl⟩)⟩
      case measure => have := HLT.out; simp [RowKit.intOf]; omega
    · obtain rfl : i = D.length := by omega
      have EN := hid (encode_any [48] [] none 0 wr (by simp) (by simp) (by simp) (by simp) (by decide) (ts_nil _) ((HM.out.on HB2.out).on HBR.out).laye.lay)
      have eB : encB [48] [] = lineB [48] [] := by unfold encB; rw [if_pos enc_zero]
      rw [eB, enc_zero] at EN
      obtain ⟨LB, hLB⟩ : ∃ LB, lineB [48] [] = LB := ⟨_, rfl⟩
      have hdo := drain_one enc_zero
      rw [hLB] at hdo EN
      have hLl : LB.length ≤ 2048 := by rw [← hLB]; exact line_len
      have HLP := hid (show 0 < LB.length by rw [← hLB, lineB_len]; omega)
      have HDO := hid hdo
      have HLL := hid hLl
      clear hlt eB hLB hdo hLl
      go_wp2_with (first | (go_at_call 16; refine (EN.out).mono ?_; rintro e w4 ⟨ev, rfl, how, _⟩; have HW4 := hid how; clear how; refine Hid.out ?_))
      obtain ⟨eq, ec, hev, hes, hel, hem⟩ := own_cap HW4.out
      subst hev
      have L3 := hid (lines_any LB eq ec [] none 0 false w4 ⟨hes, fun h0 => by subst h0; obtain ⟨_, _, e, _⟩ := hes 0 HLP.out; cases e⟩ (by have := HLL.out; omega) hel (by simp) (vs_nil w4) (((HM.out.on HB2.out).on HBR.out).on HW4.out.2.1))
      rw [HDO.out] at L3
      have HES := hid hes
      clear hes hel hem EN
      refine hid ?_
      go_wp2_with (first | (go_at_call 15; refine (L3.out).mono ?_; rintro e w5 ⟨v3, rfl, ho, hbl⟩; have HO3 := hid ho; have HB5 := hid hbl; clear ho hbl; refine Hid.out ?_))
      obtain ⟨g3, c3, e3, q3⟩ := owns_str HO3.out 0 (by simp)
      subst e3
      have cv : ∀ n, (convert 26 9 (.slice eq LB.length ec)).run Tryd.prog (w5.drewN n) = .ok (.string ⟨LB.toArray⟩) (w5.drewN n) := fun n => conv_any (w := w5.drewN n) (fun i hi => (HES.out.on HB5.out) i hi) ec
      have eqs : (LB == LB) = true := by simp
      clear L3
      simp only [List.length_singleton, List.getElem_cons_zero] at q3 ⊢
      refine hid ?_
      go_wp2
      go_quiet (fail)
      go_wp2
      go_ret
      have HBF := btr' (btr' (btr' HB2.out HBR.out) HW4.out.2.1) HB5.out
      exact ⟨rfl, ⟨HBF.os, HBF.tape, HBF.output, HBF.size, HBF.block⟩⟩
end Go.Proofs.YtolabllgnfpfaaaDoor
