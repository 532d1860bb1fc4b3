/-
  Contracts and plain facts, part 5.
-/
import Derived.Test.YtacdjioieclggaaDoorZd
namespace Go.Proofs.YtacdjioieclggaaDoor
open Go.RowKit Go.Deep Go.Lib Go.Shelf Go.Sort
set_option linter.unusedVariables false
def form : List UInt8 := [49, 48, 61, 48, 48, 48, 1]
theorem form_len : form.length = 7 := rfl
/-- a byte of a check sum's field. -/
def TrAt (i : Nat) (c : UInt8) : Prop := (3 ≤ i ∧ i ≤ 5 ∧ Dig c) ∨ form[i]? = some c
/-- seven bytes that are a check sum's field. -/
def TrailOk (s : List UInt8) : Prop := ∀ i (h : i < s.length), TrAt i s[i]
noncomputable instance (s : List UInt8) : Decidable (TrailOk s) := Classical.propDecidable _

set_option maxHeartbeats 2000000 in
set_option maxRecDepth 100000 in
/-- text.isTrail. -/
theorem istrail_any (l : List UInt8) (w : World) (h7 : l.length = 7) :
    Calls Tryd.prog 81 #[.string ⟨l.toArray⟩] w fun e w' => e = .returned (.bool (decide (TrailOk l))) ∧ Below w.heap.size w w' := by
  have hl7 : (l.length : Int) = 7 := by omega
  have H7 := hid h7
  go_enter Tryd.func81, Tryd.ntmps81
  go_wp2_with fail
  go_loopw [6] (fun iv wr => ∃ k : Nat, k ≤ 7 ∧ iv = .int .i64 k ∧ Hid (Below w.heap.size w wr) ∧ Hid (∀ i (h : i < l.length), i < k → TrAt i l[i])) (fun iv _ => 7 - (RowKit.intOf iv).toNat)
  case atStart => exact ⟨0, by omega, rfl, Below.refl _ _, fun i h hi => by omega⟩
  case round =>
    obtain ⟨k, hk, rfl, HB, HN⟩ := hrel
    by_cases hlt : k < 7
    · obtain ⟨c, hc⟩ : ∃ c, l[k]'(by omega) = c := ⟨_, rfl⟩
      have hx : ∀ h : k < (⟨l.toArray⟩ : ByteArray).size, (⟨l.toArray⟩ : ByteArray)[k] = c := fun h => by rw [ba_at l k (by omega) h, hc]
      obtain ⟨d, hd⟩ : ∃ d, form[k]'(by rw [form_len]; omega) = d := ⟨_, rfl⟩
      have hy : ∀ h : k < (⟨#[49, 48, 61, 48, 48, 48, 1]⟩ : ByteArray).size, (⟨#[49, 48, 61, 48, 48, 48, 1]⟩ : ByteArray)[k] = d := fun h => (ba_at form k (by rw [form_len]; omega) h).trans hd
      have hsz : (⟨#[49, 48, 61, 48, 48, 48, 1]⟩ : ByteArray).size = 7 := rfl
      have hfo : form[k]? = some d := by rw [List.getElem?_eq_getElem (by rw [form_len]; omega), hd]
      have i0 : (0 : Int) ≤ (k : Int) := by omega
      have i1 : (k : Int) < 7 := by omega
      have ID := hid (isdigit_any c)
      have go : ∀ (ht : TrAt k c), Hid (∀ i (h : i < l.length), i < k + 1 → TrAt i l[i]) := fun ht => hid (fun i h hi => by
        by_cases he : i = k
        · subst he; rw [hc]; exact ht
        · exact HN.out i h (by omega))
      have GO := hid go
      have NO := hid (show ¬ TrAt k c → ¬ TrailOk l from fun hn h => hn (by have := h k (by omega); rwa [hc] at this))
      have HFO := hid hfo
      clear go hc hd hfo
      by_cases hmid : 3 ≤ k ∧ k ≤ 5
      · have m1 : (3 : Int) ≤ (k : Int) := by omega
        have m2 : (k : Int) ≤ 5 := by omega
        by_cases hdg : Dig c
        · rw [decide_eq_true hdg] at ID
          have HN2 := GO.out (Or.inl ⟨hmid.1, hmid.2, hdg⟩)
          clear hdg
          go_wp2_with (go_at_call 87; refine (ID.out _).mono ?_; rintro e w1 ⟨rfl, hw⟩; subst hw)
          go_roundw
          case rel => exact ⟨k + 1, by omega, by go_num, HB, HN2⟩
          case measure => simp [RowKit.intOf]; omega
        · rw [decide_eq_false hdg] at ID
          by_cases hcd : c = d
          · subst hcd
            have HN2 := GO.out (Or.inr HFO.out)
            clear hdg
            go_wp2_with (go_at_call 87; refine (ID.out _).mono ?_; rintro e w1 ⟨rfl, hw⟩; subst hw)
            go_quiet (fail)
            go_wp2
            go_roundw
            case rel => exact ⟨k + 1, by omega, by go_num, hid (HB.out.trans ⟨rfl, rfl, rfl, Nat.le_refl _, fun _ _ => rfl⟩), HN2⟩
            case measure => simp [RowKit.intOf]; omega
          · have NT := NO.out (by rintro (h | h); exact hdg h.2.2; exact hcd (by rw [HFO.out] at h; simpa using h.symm))
            have hne : ((c.toNat : Int) != (d.toNat : Int)) = true := by
              simp
              intro e
              exact hcd (UInt8.toNat_inj.1 (by omega))
            have HNT := hid NT
            clear hdg hcd NT
            go_wp2_with (go_at_call 87; refine (ID.out _).mono ?_; rintro e w1 ⟨rfl, hw⟩; subst hw)
            go_quiet (fail)
            go_wp2
            go_ret
            exact ⟨by rw [decide_eq_false HNT.out]; rfl, HB.out.trans ⟨rfl, rfl, rfl, Nat.le_refl _, fun _ _ => rfl⟩⟩
      · by_cases m1 : (3 : Int) ≤ (k : Int)
        · have m2 : ¬ ((k : Int) ≤ 5) := by omega
          by_cases hcd : c = d
          · subst hcd
            have HN2 := GO.out (Or.inr HFO.out)
            go_wp2_with fail
            go_quiet (fail)
            go_wp2
            go_roundw
            case rel => exact ⟨k + 1, by omega, by go_num, hid (HB.out.trans ⟨rfl, rfl, rfl, Nat.le_refl _, fun _ _ => rfl⟩), HN2⟩
            case measure => simp [RowKit.intOf]; omega
          · have HNT := hid (NO.out (by rintro (h | h); exact hmid ⟨h.1, h.2.1⟩; exact hcd (by rw [HFO.out] at h; simpa using h.symm)))
            have hne : ((c.toNat : Int) != (d.toNat : Int)) = true := by
              simp
              intro e
              exact hcd (UInt8.toNat_inj.1 (by omega))
            clear hcd
            go_wp2_with fail
            go_quiet (fail)
            go_wp2
            go_ret
            exact ⟨by rw [decide_eq_false HNT.out]; rfl, HB.out.trans ⟨rfl, rfl, rfl, Nat.le_refl _, fun _ _ => rfl⟩⟩
        · skip
          by_cases hcd : c = d
          · subst hcd
            have HN2 := GO.out (Or.inr HFO.out)
            go_wp2_with fail
            go_quiet (fail)
            go_wp2
            go_roundw
            case rel => exact ⟨k + 1, by omega, by go_num, hid (HB.out.trans ⟨rfl, rfl, rfl, Nat.le_refl _, fun _ _ => rfl⟩), HN2⟩
            case measure => simp [RowKit.intOf]; omega
          · have HNT := hid (NO.out (by rintro (h | h); exact hmid ⟨h.1, h.2.1⟩; exact hcd (by rw [HFO.out] at h; simpa using h.symm)))
            have hne : ((c.toNat : Int) != (d.toNat : Int)) = true := by
              simp
              intro e
              exact hcd (UInt8.toNat_inj.1 (by omega))
            clear hcd
            go_wp2_with fail
            go_quiet (fail)
            go_wp2
            go_ret
            exact ⟨by rw [decide_eq_false HNT.out]; rfl, HB.out.trans ⟨rfl, rfl, rfl, Nat.le_refl _, fun _ _ => rfl⟩⟩
    · have HT := hid (show TrailOk l from fun i h => HN.out i h (by omega))
      have hk7 : ¬ ((k : Int) < 7) := by omega
      go_wp2
      go_ret
      exact ⟨by rw [decide_eq_true HT.out]; rfl, HB.out⟩
end Go.Proofs.YtacdjioieclggaaDoor
namespace Go.Proofs.YtacdjioieclggaaDoor
open Go.RowKit Go.Deep Go.Lib Go.Shelf Go.Sort
set_option linter.unusedVariables false
theorem begE_ok (b : List UInt8) : ∀ (k i : Nat), (begE b i k).2 = 0 → i ≤ b.length → i + k ≤ b.length ∧ ∀ j, j < k → b[i + j]? = beg[i + j]?
  | 0, i, _, h => ⟨by omega, fun j hj => by omega⟩
  | k + 1, i, he, h => by
    simp only [begE] at he
    split at he
    · cases he
    · rename_i c hc
      obtain ⟨hlt, _⟩ := List.getElem?_eq_some_iff.1 hc
      split at he
      · rename_i hcb
        obtain ⟨h1, h2⟩ := begE_ok b k (i + 1) he (by omega)
        refine ⟨by omega, fun j hj => ?_⟩
        cases j with
        | zero => rw [Nat.add_zero, hc, hcb]
        | succ j => have := h2 j (by omega); rwa [show i + 1 + j = i + (j + 1) by omega] at this
      · cases he
theorem begE_fst (b : List UInt8) : ∀ (k i : Nat), (begE b i k).2 = 0 → (begE b i k).1 = 0
  | 0, i, _ => rfl
  | k + 1, i, he => by
    simp only [begE] at he ⊢
    split at he
    · cases he
    · split at he
      · rename_i c hc hcb
        rw [if_pos hcb]
        exact begE_fst b k (i + 1) he
      · cases he
theorem lenE_ok {l : List UInt8} {f t p : Nat} (h : lenE l = ((f, t), p, 0)) (h10 : 10 ≤ l.length) : p = 0 ∧ 11 ≤ f ∧ f ≤ t ∧ t + 7 ≤ 2048 ∧ f ≤ l.length := by
  have hd := digN_le (l.drop 10) 5 0 (by omega)
  rw [List.length_drop] at hd
  unfold lenE at h
  split at h
  · simp at h
  · split at h
    · simp at h
    · split at h
      · simp at h
      · split at h
        · simp at h
        · simp only [Prod.mk.injEq] at h
          obtain ⟨⟨rfl, rfl⟩, rfl, _⟩ := h
          omega
/-- the body of the line with which bytes begin; with an error its place. -/
noncomputable def outE (l : List UInt8) : (Nat × Nat) × Nat × Int :=
  if (begE l 0 10).2 ≠ 0 then ((0, 0), (begE l 0 10).1, (begE l 0 10).2)
  else if (lenE l).2.2 ≠ 0 then ((0, 0), (lenE l).2.1, (lenE l).2.2)
  else if l.length < (lenE l).1.2 + 7 then ((0, 0), l.length, 20)
  else if ¬ TrailOk ((l.drop (lenE l).1.2).take 7) ∨ (lenE l).1.1 = (lenE l).1.2 ∨ l[(lenE l).1.2 - 1]? ≠ some 1 then ((0, 0), (lenE l).1.2, 32)
  else if (l.drop (lenE l).1.2).take 7 ≠ trailB (l.take (lenE l).1.2) then ((0, 0), (lenE l).1.2, 33)
  else ((lenE l).1, 0, 0)

set_option maxHeartbeats 2000000 in
set_option maxRecDepth 100000 in
theorem outline_beg (l : List UInt8) (q : Option Addr) (cap : Nat) (w : World) (hl : l.length < 4611686018427387904) (hS : Sb w q l) (h : (begE l 0 10).2 ≠ 0) :
    Calls Tryd.prog 66 #[.slice q l.length cap] w fun e w' => e = .returned (lenV (outE l)) ∧ Below w.heap.size w w' := by
  have hE : outE l = ((0, 0), (begE l 0 10).1, (begE l 0 10).2) := by unfold outE; rw [if_pos h]
  rw [hE]
  have A0 := hid (ball w (.cells #[.int .i64 0, .int .i64 0] 117))
  have BG := hid (beginning_any l q cap _ (by omega) (hS.on A0.out))
  obtain ⟨p, e, he⟩ : ∃ p e, begE l 0 10 = (p, e) := ⟨_, _, rfl⟩
  rw [he] at BG h ⊢
  simp only at BG h ⊢
  have hne : (e != 0) = true := by simpa using h
  clear hE he h hS
  go_enter Tryd.func66, Tryd.ntmps66
  go_wp2_with (go_at_call 79; refine BG.out.mono ?_; rintro e w1 ⟨rfl, hb⟩; have HB1 := hid (btr' A0.out hb); have q0 := cell_new 0 hb rfl; have q1 := cell_new 1 hb rfl; have r0 : w1.frozen? ⟨w.heap.size, 0, none⟩ = false := (hb.frozen (by simp)).trans (World.frozen?_alloc_new _ _ _ _); have r1 : w1.frozen? ⟨w.heap.size, 1, none⟩ = false := (hb.frozen (by simp)).trans (World.frozen?_alloc_new _ _ _ _); clear hb)
  refine bodyPost_ret (res62 Tryd.f66 2 3 4 Tryd.results66 _ _ w.heap.size (.int .i64 0) (.int .i64 0) _ _ (by rfl) (by rfl) (by rfl) ?c0 ?c1) rfl ⟨rfl, ?bel⟩
  case c0 => exact (set2 q0 q1).1
  case c1 => exact (set2 q0 q1).2
  case bel =>
    repeat (first | exact HB1.out | apply Below.setCell)
    all_goals simp

set_option maxHeartbeats 2000000 in
set_option maxRecDepth 100000 in
theorem outline_len (l : List UInt8) (b o : Nat) (cap : Nat) (w : World) (hl : l.length < 4611686018427387904) (h10 : 10 ≤ l.length) (hcap : l.length ≤ cap) (hcm : cap < 9223372036854775808) (hS : Sb w (some ⟨b, o, none⟩) l) (hL : LayE w) (h0 : (begE l 0 10).2 = 0) (h1 : (begE l 0 10).1 = 0) (h : (lenE l).2.2 ≠ 0) :
    Calls Tryd.prog 66 #[.slice (some ⟨b, o, none⟩) l.length cap] w fun e w' => e = .returned (lenV (outE l)) ∧ Below w.heap.size w w' := by
  have hE : outE l = ((0, 0), (lenE l).2.1, (lenE l).2.2) := by unfold outE; rw [if_neg (by simpa using h0), if_pos h]
  rw [hE]
  have A0 := hid (ball w (.cells #[.int .i64 0, .int .i64 0] 117))
  have BG := hid (beginning_any l (some ⟨b, o, none⟩) cap _ (by omega) (hS.on A0.out))
  have HS := hid hS
  have HL := hid hL
  have LN := hid (fun w' hS hL => length_any l b o cap w' hl h10 hcap hcm hS hL)
  rw [h0, h1] at BG
  obtain ⟨f, t, p, e, he⟩ : ∃ f t p e, lenE l = ((f, t), p, e) := ⟨_, _, _, _, rfl⟩
  rw [he] at LN h ⊢
  simp only [lenV] at LN h ⊢
  have hne : (e != 0) = true := by simpa using h
  clear hE he h hS hL h0 h1
  go_enter Tryd.func66, Tryd.ntmps66
  go_wp2_with (first | (go_at_call 79; refine BG.out.mono ?_; rintro e w1 ⟨rfl, hb⟩; have HB1 := hid (btr' A0.out hb); have q10 := cell_new 0 hb rfl; have q11 := cell_new 1 hb rfl; have r10 : w1.frozen? ⟨w.heap.size, 0, none⟩ = false := (hb.frozen (by simp)).trans (World.frozen?_alloc_new _ _ _ _); have r11 : w1.frozen? ⟨w.heap.size, 1, none⟩ = false := (hb.frozen (by simp)).trans (World.frozen?_alloc_new _ _ _ _); clear hb) | (go_at_call 80; refine (LN.out _ (HS.out.on HB1.out) (HL.out.on HB1.out)).mono ?_; rintro e w2 ⟨rfl, hb⟩; have HB2 := hid (btr' HB1.out hb); have q20 := (hb.cell (cell_lt q10)).trans q10; have q21 := (hb.cell (cell_lt q11)).trans q11; have r20 := (hb.frozen (cell_lt q10)).trans r10; have r21 := (hb.frozen (cell_lt q11)).trans r11; have hbx := ball w2 (.cells #[.int .i64 (f : Int), .int .i64 (t : Int)] 117); have qa0 := (hbx.cell (cell_lt q20)).trans q20; have qa1 := (hbx.cell (cell_lt q21)).trans q21; have ra0 := (hbx.frozen (cell_lt q20)).trans r20; have ra1 := (hbx.frozen (cell_lt q21)).trans r21; have HBX := hid (btr' HB2.out hbx); clear hb hbx))
  refine bodyPost_ret (res62 Tryd.f66 2 3 4 Tryd.results66 _ _ w.heap.size (.int .i64 0) (.int .i64 0) _ _ (by rfl) (by rfl) (by rfl) ?c0 ?c1) rfl ⟨rfl, ?bel⟩
  case c0 => exact (set2 qa0 qa1).1
  case c1 => exact (set2 qa0 qa1).2
  case bel =>
    repeat (first | exact HBX.out | apply Below.setCell)
    all_goals simp

set_option maxHeartbeats 2000000 in
set_option maxRecDepth 100000 in
theorem outline_short (l : List UInt8) (b o : Nat) (cap : Nat) (w : World) (hl : l.length < 4611686018427387904) (h10 : 10 ≤ l.length) (hcap : l.length ≤ cap) (hcm : cap < 9223372036854775808) (hS : Sb w (some ⟨b, o, none⟩) l) (hL : LayE w) (h0 : (begE l 0 10).2 = 0) (h1 : (begE l 0 10).1 = 0) (h : (lenE l).2.2 = 0) (hsh : l.length < (lenE l).1.2 + 7) :
    Calls Tryd.prog 66 #[.slice (some ⟨b, o, none⟩) l.length cap] w fun e w' => e = .returned (lenV (outE l)) ∧ Below w.heap.size w w' := by
  have hE : outE l = ((0, 0), l.length, 20) := by unfold outE; rw [if_neg (by simpa using h0), if_neg (by simpa using h), if_pos hsh]
  rw [hE]
  have A0 := hid (ball w (.cells #[.int .i64 0, .int .i64 0] 117))
  have BG := hid (beginning_any l (some ⟨b, o, none⟩) cap _ (by omega) (hS.on A0.out))
  have HS := hid hS
  have HL := hid hL
  have LN := hid (fun w' hS hL => length_any l b o cap w' hl h10 hcap hcm hS hL)
  rw [h0, h1] at BG
  obtain ⟨f, t, p, e, he⟩ : ∃ f t p e, lenE l = ((f, t), p, e) := ⟨_, _, _, _, rfl⟩
  rw [he] at LN h hsh
  simp only at h hsh
  subst h
  obtain ⟨rfl, hf, hft, ht, hfl⟩ := lenE_ok he h10
  simp only [lenV] at LN ⊢
  have EN := hid (fun w' => end_any f t w' (by omega))
  have hs2 : (l.length : Int) < (t : Int) + 7 := by omega
  clear hE he hS hL h0 h1
  go_enter Tryd.func66, Tryd.ntmps66
  go_wp2_with (first | (go_at_call 79; refine BG.out.mono ?_; rintro e w1 ⟨rfl, hb⟩; have HB1 := hid (btr' A0.out hb); have q10 := cell_new 0 hb rfl; have q11 := cell_new 1 hb rfl; have r10 : w1.frozen? ⟨w.heap.size, 0, none⟩ = false := (hb.frozen (by simp)).trans (World.frozen?_alloc_new _ _ _ _); have r11 : w1.frozen? ⟨w.heap.size, 1, none⟩ = false := (hb.frozen (by simp)).trans (World.frozen?_alloc_new _ _ _ _); clear hb) | (go_at_call 80; refine (LN.out _ (HS.out.on HB1.out) (HL.out.on HB1.out)).mono ?_; rintro e w2 ⟨rfl, hb⟩; have HB2 := hid (btr' HB1.out hb); have q20 := (hb.cell (cell_lt q10)).trans q10; have q21 := (hb.cell (cell_lt q11)).trans q11; have r20 := (hb.frozen (cell_lt q10)).trans r10; have r21 := (hb.frozen (cell_lt q11)).trans r11; clear hb) | (go_at_call 68; refine (EN.out _).mono ?_; rintro e w3 ⟨rfl, hb⟩; have hb' := btr' (ball w2 _) hb; have HB3 := hid (btr' HB2.out hb'); have q30 := (hb'.cell (cell_lt q20)).trans q20; have q31 := (hb'.cell (cell_lt q21)).trans q21; have r30 := (hb'.frozen (cell_lt q20)).trans r20; have r31 := (hb'.frozen (cell_lt q21)).trans r21; have b30 := cell_new 0 hb rfl; have b31 := cell_new 1 hb rfl; clear hb hb'))
  refine bodyPost_ret (res62 Tryd.f66 2 3 4 Tryd.results66 _ _ w.heap.size (.int .i64 0) (.int .i64 0) _ _ (by rfl) (by rfl) (by rfl) ?c0 ?c1) rfl ⟨rfl, ?bel⟩
  case c0 => exact (set2 q30 q31).1
  case c1 => exact (set2 q30 q31).2
  case bel =>
    repeat (first | exact HB3.out | apply Below.setCell)
    all_goals simp

set_option maxHeartbeats 4000000 in
set_option maxRecDepth 100000 in
theorem outline_rest (l : List UInt8) (b o : Nat) (cap : Nat) (w : World) (hl : l.length < 4611686018427387904) (h10 : 10 ≤ l.length) (hcap : l.length ≤ cap) (hcm : cap < 9223372036854775808) (hS : Sb w (some ⟨b, o, none⟩) l) (hL : LayE w) (h0 : (begE l 0 10).2 = 0) (h1 : (begE l 0 10).1 = 0) (h : (lenE l).2.2 = 0) (hsh : ¬ l.length < (lenE l).1.2 + 7) :
    Calls Tryd.prog 66 #[.slice (some ⟨b, o, none⟩) l.length cap] w fun e w' => e = .returned (lenV (outE l)) ∧ Below w.heap.size w w' := by
  have A0 := hid (ball w (.cells #[.int .i64 0, .int .i64 0] 117))
  have BG := hid (beginning_any l (some ⟨b, o, none⟩) cap _ (by omega) (hS.on A0.out))
  have HS := hid hS
  have HL := hid hL
  have LN := hid (fun w' hS hL => length_any l b o cap w' hl h10 hcap hcm hS hL)
  rw [h0, h1] at BG
  obtain ⟨R, hR⟩ : ∃ R, outE l = R := ⟨_, rfl⟩
  rw [hR]
  have HO := hid hR
  unfold outE at HO
  obtain ⟨f, t, p, e, he⟩ : ∃ f t p e, lenE l = ((f, t), p, e) := ⟨_, _, _, _, rfl⟩
  rw [he] at LN h hsh
  simp only at h hsh
  subst h
  obtain ⟨rfl, hf, hft, ht, hfl⟩ := lenE_ok he h10
  simp only [lenV] at LN
  have EN := hid (fun w' => end_any f t w' (by omega))
  have hs2 : ¬ ((l.length : Int) < (t : Int) + 7) := by omega
  have i0 : (0 : Int) ≤ (t : Int) := by omega
  have i1 : (t : Int) ≤ (t : Int) + 7 := by omega
  have i2 : (t : Int) + 7 ≤ (cap : Int) := by omega
  have i3 : ¬ cap = t := by omega
  rw [if_neg (by simpa using h0), he] at HO
  rw [if_neg (by simp), if_neg hsh] at HO
  simp only at HO
  have hTk : ((l.drop t).take 7).length = 7 := by simp; omega
  have IT := hid (fun w' => istrail_any ((l.drop t).take 7) w' hTk)
  have TA := hid (fun w' hS hL => trail_any (l.take t) (some ⟨b, o, none⟩) cap w' (by simp; omega) hS hL)
  rw [show (l.take t).length = t by simp; omega] at TA
  have hlast : l[t - 1]? = some (l[t - 1]'(by omega)) := List.getElem?_eq_getElem (by omega)
  obtain ⟨c, hc⟩ : ∃ c, l[t - 1]'(by omega) = c := ⟨_, rfl⟩
  have CL := hid (fun w' (hS : Sb w' (some ⟨b, o, none⟩) l) => hS.at (t - 1) (by omega))
  rw [hc] at hlast CL
  rw [hlast] at HO
  have CVT := hid (fun (w' : World) (hS : Sb w' (some ⟨b, o, none⟩) l) => conv_sb ((hS.drop t).take 7) (cap - t))
  rw [hTk] at CVT
  obtain ⟨TK, hTK⟩ : ∃ x, (l.drop t).take 7 = x := ⟨_, rfl⟩
  rw [hTK] at HO IT CVT
  obtain ⟨TB, hTB⟩ : ∃ x, trailB (l.take t) = x := ⟨_, rfl⟩
  rw [hTB] at HO TA
  have k0 : (0 : Int) ≤ (t : Int) - 1 := by omega
  have k1 : (t : Int) - 1 < (l.length : Int) := by omega
  have k2 : (t : Int) ≤ (cap : Int) := by omega
  have k3 : ((t : Int) - 1).toNat = t - 1 := by omega
  have h7n : ((t : Int) + 7).toNat - t = 7 := by omega
  clear he hS hL h0 h1 hR hTk hlast hc hTK hTB
  go_enter Tryd.func66, Tryd.ntmps66
  go_wp2_with (first | (go_at_call 79; refine BG.out.mono ?_; rintro e w1 ⟨rfl, hb⟩; have HB1 := hid (btr' A0.out hb); have q10 := cell_new 0 hb rfl; have q11 := cell_new 1 hb rfl; have r10 : w1.frozen? ⟨w.heap.size, 0, none⟩ = false := (hb.frozen (by simp)).trans (World.frozen?_alloc_new _ _ _ _); have r11 : w1.frozen? ⟨w.heap.size, 1, none⟩ = false := (hb.frozen (by simp)).trans (World.frozen?_alloc_new _ _ _ _); clear hb) | (go_at_call 80; refine (LN.out _ (HS.out.on HB1.out) (HL.out.on HB1.out)).mono ?_; rintro e w2 ⟨rfl, hb⟩; have HB2 := hid (btr' HB1.out hb); have q20 := (hb.cell (cell_lt q10)).trans q10; have q21 := (hb.cell (cell_lt q11)).trans q11; have r20 := (hb.frozen (cell_lt q10)).trans r10; have r21 := (hb.frozen (cell_lt q11)).trans r11; have hnA : ¬ w2.heap.size = w.heap.size := Nat.ne_of_gt (cell_lt q20); have hnB : ¬ w.heap.size = w2.heap.size := Nat.ne_of_lt (cell_lt q20); clear hb) | (go_at_call 68; refine (EN.out _).mono ?_; rintro e w3 ⟨rfl, hb⟩; have hb' := btr' (ball w2 _) hb; have HB3 := hid (btr' HB2.out hb'); have q30 := (hb'.cell (cell_lt q20)).trans q20; have q31 := (hb'.cell (cell_lt q21)).trans q21; have r30 := (hb'.frozen (cell_lt q20)).trans r20; have r31 := (hb'.frozen (cell_lt q21)).trans r21; have b30 := cell_new 0 hb rfl; have b31 := cell_new 1 hb rfl; clear hb hb'))
  go_region_with (first | (go_at_call 68; refine (EN.out _).mono ?_; rintro e w4 ⟨rfl, hb⟩; have hb3 : Below w3.heap.size w3 w4 := ⟨hb.os, hb.tape, hb.output, hb.size, hb.block⟩; have HB4 := hid (btr' HB3.out hb3); have q40 := (hb3.cell (cell_lt q30)).trans q30; have q41 := (hb3.cell (cell_lt q31)).trans q31; have r40 := (hb3.frozen (cell_lt q30)).trans r30; have r41 := (hb3.frozen (cell_lt q31)).trans r31; have b40 := (hb3.cell (cell_lt b30)).trans b30; have b41 := (hb3.cell (cell_lt b31)).trans b31; have cv4 := CVT.out w4 (HS.out.on HB4.out); clear hb hb3))
  all_goals
    by_cases c1 : TrailOk TK
    · rw [decide_eq_true c1] at IT
      by_cases c2 : f = t
      · rw [if_pos (Or.inr (Or.inl c2))] at HO
        obtain rfl := HO.out
        have m2 : ((f : Int) == (t : Int)) = true := by simp; omega
        clear HO c1 c2
        go_wp2_with (first | (go_at_call 81; refine (IT.out _).mono ?_; rintro e w5 ⟨rfl, hb⟩; have HB5 := hid (btr' HB4.out hb); have q50 := (hb.cell (cell_lt q40)).trans q40; have q51 := (hb.cell (cell_lt q41)).trans q41; have r50 := (hb.frozen (cell_lt q40)).trans r40; have r51 := (hb.frozen (cell_lt q41)).trans r41; have b50 := (hb.cell (cell_lt b40)).trans b40; have b51 := (hb.cell (cell_lt b41)).trans b41; have c5 := CL.out w5 (HS.out.on HB5.out); clear hb))
        go_region
        all_goals
          go_wp2
          refine bodyPost_ret (res62 Tryd.f66 2 3 4 Tryd.results66 _ _ w.heap.size (.int .i64 0) (.int .i64 0) _ _ (by rfl) (by rfl) (by rfl) ?c0 ?c1) rfl ⟨rfl, ?bel⟩
          case c0 => first | exact (set2 q50 q51).1 | exact (set2 (w := w5.drew) q50 q51).1
          case c1 => first | exact (set2 q50 q51).2 | exact (set2 (w := w5.drew) q50 q51).2
          case bel =>
            repeat (first | exact HB5.out | exact HB5.out.drew | apply Below.drew | apply Below.setCell)
            all_goals simp
      · have m2 : ((f : Int) == (t : Int)) = false := by simp; omega
        by_cases c3 : c = 1
        · rw [if_neg (by rintro (h | h | h); exact h c1; exact c2 h; exact h (by rw [c3]))] at HO
          subst c3
          by_cases c4 : TK = TB
          · rw [if_neg (by simpa using c4)] at HO
            obtain rfl := HO.out
            subst c4
            clear HO c1 c2
            go_wp2_with (first | (go_at_call 81; refine (IT.out _).mono ?_; rintro e w5 ⟨rfl, hb⟩; have HB5 := hid (btr' HB4.out hb); have q50 := (hb.cell (cell_lt q40)).trans q40; have q51 := (hb.cell (cell_lt q41)).trans q41; have r50 := (hb.frozen (cell_lt q40)).trans r40; have r51 := (hb.frozen (cell_lt q41)).trans r41; have b50 := (hb.cell (cell_lt b40)).trans b40; have b51 := (hb.cell (cell_lt b41)).trans b41; have c5 := CL.out w5 (HS.out.on HB5.out); clear hb) | (go_at_call 78; refine (TA.out _ ((HS.out.on HB5.out).take t) (HL.out.on HB5.out).lay).mono ?_; rintro e w6 ⟨rfl, hb⟩; have HB6 := hid (btr' HB5.out hb); have q60 := (hb.cell (cell_lt q50)).trans q50; have q61 := (hb.cell (cell_lt q51)).trans q51; have r60 := (hb.frozen (cell_lt q50)).trans r50; have r61 := (hb.frozen (cell_lt q51)).trans r51; have b60 := (hb.cell (cell_lt b50)).trans b50; have b61 := (hb.cell (cell_lt b51)).trans b51; clear hb))
            refine bodyPost_ret (res62 Tryd.f66 2 3 4 Tryd.results66 _ _ w.heap.size (.int .i64 (f : Int)) (.int .i64 (t : Int)) _ _ (by rfl) (by rfl) (by rfl) ?c0 ?c1) rfl ⟨rfl, ?bel⟩
            case c0 => first | exact (set2 q60 q61).1 | exact (set2 (w := w6.drew) q60 q61).1
            case c1 => first | exact (set2 q60 q61).2 | exact (set2 (w := w6.drew) q60 q61).2
            case bel =>
              repeat (first | exact HB6.out | exact HB6.out.drew | apply Below.drew | apply Below.setCell)
              all_goals simp
          · rw [if_pos c4] at HO
            obtain rfl := HO.out
            have m4 : (TK == TB) = false := by simpa using c4
            clear HO c1 c2 c4
            go_wp2_with (first | (go_at_call 81; refine (IT.out _).mono ?_; rintro e w5 ⟨rfl, hb⟩; have HB5 := hid (btr' HB4.out hb); have q50 := (hb.cell (cell_lt q40)).trans q40; have q51 := (hb.cell (cell_lt q41)).trans q41; have r50 := (hb.frozen (cell_lt q40)).trans r40; have r51 := (hb.frozen (cell_lt q41)).trans r41; have b50 := (hb.cell (cell_lt b40)).trans b40; have b51 := (hb.cell (cell_lt b41)).trans b41; have c5 := CL.out w5 (HS.out.on HB5.out); clear hb) | (go_at_call 78; refine (TA.out _ ((HS.out.on HB5.out).take t) (HL.out.on HB5.out).lay).mono ?_; rintro e w6 ⟨rfl, hb⟩; have HB6 := hid (btr' HB5.out hb); have q60 := (hb.cell (cell_lt q50)).trans q50; have q61 := (hb.cell (cell_lt q51)).trans q51; have r60 := (hb.frozen (cell_lt q50)).trans r50; have r61 := (hb.frozen (cell_lt q51)).trans r51; have b60 := (hb.cell (cell_lt b50)).trans b50; have b61 := (hb.cell (cell_lt b51)).trans b51; clear hb))
            go_region
            all_goals
              go_wp2
              refine bodyPost_ret (res62 Tryd.f66 2 3 4 Tryd.results66 _ _ w.heap.size (.int .i64 0) (.int .i64 0) _ _ (by rfl) (by rfl) (by rfl) ?c0 ?c1) rfl ⟨rfl, ?bel⟩
              case c0 => first | exact (set2 q60 q61).1 | exact (set2 (w := w6.drew) q60 q61).1
              case c1 => first | exact (set2 q60 q61).2 | exact (set2 (w := w6.drew) q60 q61).2
              case bel =>
                repeat (first | exact HB6.out | exact HB6.out.drew | apply Below.drew | apply Below.setCell)
                all_goals simp
        · rw [if_pos (Or.inr (Or.inr (by simpa using c3)))] at HO
          obtain rfl := HO.out
          have m3 : ((c.toNat : Int) != 1) = true := by
            simp
            intro e
            have e2 : c.toNat = 1 := by omega
            exact c3 (UInt8.toNat_inj.1 (by simpa using e2))
          clear HO c1 c2 c3
          go_wp2_with (first | (go_at_call 81; refine (IT.out _).mono ?_; rintro e w5 ⟨rfl, hb⟩; have HB5 := hid (btr' HB4.out hb); have q50 := (hb.cell (cell_lt q40)).trans q40; have q51 := (hb.cell (cell_lt q41)).trans q41; have r50 := (hb.frozen (cell_lt q40)).trans r40; have r51 := (hb.frozen (cell_lt q41)).trans r41; have b50 := (hb.cell (cell_lt b40)).trans b40; have b51 := (hb.cell (cell_lt b41)).trans b41; have c5 := CL.out w5 (HS.out.on HB5.out); clear hb))
          go_region
          all_goals
            go_wp2
            refine bodyPost_ret (res62 Tryd.f66 2 3 4 Tryd.results66 _ _ w.heap.size (.int .i64 0) (.int .i64 0) _ _ (by rfl) (by rfl) (by rfl) ?c0 ?c1) rfl ⟨rfl, ?bel⟩
            case c0 => first | exact (set2 q50 q51).1 | exact (set2 (w := w5.drew) q50 q51).1
            case c1 => first | exact (set2 q50 q51).2 | exact (set2 (w := w5.drew) q50 q51).2
            case bel =>
              repeat (first | exact HB5.out | exact HB5.out.drew | apply Below.drew | apply Below.setCell)
              all_goals simp
    · rw [decide_eq_false c1] at IT
      rw [if_pos (Or.inl c1)] at HO
      obtain rfl := HO.out
      clear HO c1
      go_wp2_with (first | (go_at_call 81; refine (IT.out _).mono ?_; rintro e w5 ⟨rfl, hb⟩; have HB5 := hid (btr' HB4.out hb); have q50 := (hb.cell (cell_lt q40)).trans q40; have q51 := (hb.cell (cell_lt q41)).trans q41; have r50 := (hb.frozen (cell_lt q40)).trans r40; have r51 := (hb.frozen (cell_lt q41)).trans r41; have b50 := (hb.cell (cell_lt b40)).trans b40; have b51 := (hb.cell (cell_lt b41)).trans b41; have c5 := CL.out w5 (HS.out.on HB5.out); clear hb))
      go_region
      all_goals
        go_wp2
        refine bodyPost_ret (res62 Tryd.f66 2 3 4 Tryd.results66 _ _ w.heap.size (.int .i64 0) (.int .i64 0) _ _ (by rfl) (by rfl) (by rfl) ?c0 ?c1) rfl ⟨rfl, ?bel⟩
        case c0 => first | exact (set2 q50 q51).1 | exact (set2 (w := w5.drew) q50 q51).1
        case c1 => first | exact (set2 q50 q51).2 | exact (set2 (w := w5.drew) q50 q51).2
        case bel =>
          repeat (first | exact HB5.out | exact HB5.out.drew | apply Below.drew | apply Below.setCell)
          all_goals simp

/-- text.outline. -/
theorem outline_any (l : List UInt8) (q : Option Addr) (cap : Nat) (w : World) (hl : l.length < 4611686018427387904) (hcap : l.length ≤ cap) (hcm : cap < 9223372036854775808) (hS : Sb w q l) (hL : LayE w) :
    Calls Tryd.prog 66 #[.slice q l.length cap] w fun e w' => e = .returned (lenV (outE l)) ∧ Below w.heap.size w w' := by
  by_cases h : (begE l 0 10).2 = 0
  · obtain ⟨h10, _⟩ := begE_ok l 10 0 h (Nat.zero_le _)
    obtain ⟨b, o, rfl, _⟩ := hS 0 (by omega)
    have h1 := begE_fst l 10 0 h
    by_cases h2 : (lenE l).2.2 = 0
    · by_cases h3 : l.length < (lenE l).1.2 + 7
      · exact outline_short l b o cap w hl (by omega) hcap hcm hS hL h h1 h2 h3
      · exact outline_rest l b o cap w hl (by omega) hcap hcm hS hL h h1 h2 h3
    · exact outline_len l b o cap w hl (by omega) hcap hcm hS hL h h1 h2
  · exact outline_beg l q cap w hl hS h
end Go.Proofs.YtacdjioieclggaaDoor
namespace Go.Proofs
open Go.Shelf
def Tryd.lays145_ren : Go.Shelf.Ren := ⟨fun | 145 => 91 | 220 => 97 | 219 => 105 | 217 => 114 | 225 => 115 | 224 => 116 | 267 => 117 | 266 => 121 | 314 => 122 | n => n, fun | 9 => 9 | 4 => 4 | 59 => 143 | 3 => 3 | 5 => 5 | 46 => 126 | 146 => 172 | 51 => 23 | n => n, fun | 1 => 2 | n => n⟩
theorem Tryd.lays145 : Go.Proofs.Lays.n145 Tryd.prog Tryd.lays145_ren := {
  mixed := by kernel_rfl
  f145 := Tryd.func91.trans (congrArg some (by kernel_rfl))
  f217 := Tryd.func114.trans (congrArg some (by kernel_rfl))
  f219 := Tryd.func105.trans (congrArg some (by kernel_rfl))
  f220 := Tryd.func97.trans (congrArg some (by kernel_rfl))
  f224 := Tryd.func116.trans (congrArg some (by kernel_rfl))
  f225 := Tryd.func115.trans (congrArg some (by kernel_rfl))
  f266 := Tryd.func121.trans (congrArg some (by kernel_rfl))
  f267 := Tryd.func117.trans (congrArg some (by kernel_rfl))
  f314 := Tryd.func122.trans (congrArg some (by kernel_rfl))
  t3 := Tryd.underlying3
  a3 := Tryd.isAgg3
  z3 := Tryd.sizeOf3
  v3 := Tryd.zeroValue3
  t4 := Tryd.underlying4
  a4 := Tryd.isAgg4
  z4 := Tryd.sizeOf4
  v4 := Tryd.zeroValue4
  t5 := Tryd.underlying5
  a5 := Tryd.isAgg5
  z5 := Tryd.sizeOf5
  v5 := Tryd.zeroValue5
  t9 := Tryd.underlying9
  a9 := Tryd.isAgg9
  z9 := Tryd.sizeOf9
  v9 := Tryd.zeroValue9
  t46 := Tryd.underlying126
  a46 := Tryd.isAgg126
  z46 := Tryd.sizeOf126
  v46 := Tryd.zeroValue126
  t51 := Tryd.underlying23
  a51 := Tryd.isAgg23
  z51 := Tryd.sizeOf23
  v51 := Tryd.zeroValue23
  t59 := Tryd.underlying143
  a59 := Tryd.isAgg143
  z59 := Tryd.sizeOf143
  v59 := Tryd.zeroValue143
  t146 := Tryd.underlying172
  a146 := Tryd.isAgg172
  z146 := Tryd.sizeOf172
  v146 := Tryd.zeroValue172
  g1 := by kernel_rfl }
open Go.RowKit Go.Lib in
theorem Tryd.strings_Cut (s sep : ByteArray) (m : Int) (w : World) (hs : s.size < 4294967281) (hm : w.cell? ⟨2, 0, none⟩ = some (.int .i64 m)) :
    Calls Tryd.prog 91 #[.string s, .string sep] w fun e w' => e = .returned (.tuple #[.string ⟨(Lib.cut s.data.toList sep.data.toList).1.toArray⟩, .string ⟨(Lib.cut s.data.toList sep.data.toList).2.1.toArray⟩, .bool (Lib.cut s.data.toList sep.data.toList).2.2]) ∧ ∃ n, w' = w.drewN n := Any.strings_Cut Tryd.lays145 s sep m w hs hm
end Go.Proofs
namespace Go.Proofs.YtacdjioieclggaaDoor
open Go.RowKit Go.Deep Go.Lib Go.Shelf Go.Sort
set_option linter.unusedVariables false
open Classical in
noncomputable def kindE (x : Int × List UInt8) : List UInt8 × Int := if x.1 = 35 ∧ KindOk x.2 then (x.2, 0) else ([], 3)
set_option maxHeartbeats 2000000 in
set_option maxRecDepth 100000 in
/-- text.kindOf. -/
theorem kindof_any (t : Int) (v : List UInt8) (w : World) (hv : v.length < 9223372036854775808) :
    Calls Tryd.prog 83 #[.agg #[.int .i64 t, .string ⟨v.toArray⟩]] w fun e w' => e = .returned (.tuple #[.string ⟨(kindE (t, v)).1.toArray⟩, .int .i64 (kindE (t, v)).2]) ∧ Below w.heap.size w w' := by
  have A0 := hid (ball w (.cells #[.int .i64 t, .string ⟨v.toArray⟩] 76))
  have IK := hid (fun w' => iskind_any v w' hv)
  by_cases ht : t = 35
  · subst ht
    by_cases hk : KindOk v
    · have e : kindE (35, v) = (v, 0) := by unfold kindE; rw [if_pos ⟨rfl, hk⟩]
      rw [e]
      rw [decide_eq_true hk] at IK
      clear e hk
      go_enter Tryd.func83, Tryd.ntmps83
      go_wp2_with (go_at_call 74; refine (IK.out _).mono ?_; rintro e w1 ⟨rfl, hw⟩; subst hw)
      go_ret2
      exact ⟨rfl, A0.out⟩
    · have e : kindE (35, v) = ([], 3) := by unfold kindE; rw [if_neg (fun h => hk h.2)]
      rw [e]
      rw [decide_eq_false hk] at IK
      clear e hk
      go_enter Tryd.func83, Tryd.ntmps83
      go_wp2_with (go_at_call 74; refine (IK.out _).mono ?_; rintro e w1 ⟨rfl, hw⟩; subst hw)
      go_ret2
      exact ⟨rfl, A0.out⟩
  · have e : kindE (t, v) = ([], 3) := by unfold kindE; rw [if_neg (fun h => ht h.1)]
    rw [e]
    have hne : (t != 35) = true := by simpa using ht
    clear e ht
    go_enter Tryd.func83, Tryd.ntmps83
    go_wp2
    go_ret2
    exact ⟨rfl, A0.out⟩

/-- .. and a number of the library's. -/
structure LayM (w : World) : Prop where
  laye : LayE w
  mx : ∃ m, w.cell? ⟨2, 0, none⟩ = some (.int .i64 m)
theorem LayM.on {w w' : World} (h : LayM w) (hb : Below w.heap.size w w') : LayM w' := by
  obtain ⟨m, hm⟩ := h.mx
  exact ⟨h.laye.on hb, m, by rw [hb.cell (cell_lt hm)]; exact hm⟩
theorem info28 : (Tryd.prog.info? 76).map (·.size) = some 2 := by kernel_rfl
theorem res28 (fn : Func) (p u : Tmp) (h : fn.results = #[.cell p 76, .tmp u]) (tmps : Array Value) (w : World) (g : Nat) (a b eu : Value)
    (hp : tmps.getD p undef = .pointer (some ⟨g, 0, none⟩)) (hu : tmps.getD u undef = eu) (h0 : w.cell? ⟨g, 0, none⟩ = some a) (h1 : w.cell? ⟨g, 1, none⟩ = some b) :
    (results fn tmps).run Tryd.prog w = .ok (.tuple #[.agg #[a, b], eu]) w := by
  have hp' : tmps[p]?.getD undef = .pointer (some ⟨g, 0, none⟩) := by simpa using hp
  have hu' : tmps[u]?.getD undef = eu := by simpa using hu
  have hr : w.rangeAt g 0 [a, b] := by
    intro j x hj
    match j, hj with
    | 0, hj => simp at hj; subst hj; simpa using h0
    | 1, hj => simp at hj; subst hj; simpa using h1
  simp [results, h, hp', hu', asAddr, run_loadVar_mid w g 0 76 [a, b] _ hr Tryd.underlying76 rfl info28]
/-- a field's tag and value; false: it has no tag. -/
def fieldE (s : List UInt8) : (Int × List UInt8) × Bool :=
  if (Lib.cut s [61]).2.2 = false ∨ 4 < (Lib.cut s [61]).1.length then ((0, []), false)
  else ((((num (Lib.cut s [61]).1).getD 0 : Nat), (Lib.cut s [61]).2.1), (num (Lib.cut s [61]).1).isSome)
set_option maxHeartbeats 2000000 in
set_option maxRecDepth 100000 in
/-- text.readField. -/
theorem readfield_any (s : List UInt8) (w : World) (hs : s.length < 100000) (hM : LayM w) :
    Calls Tryd.prog 82 #[.string ⟨s.toArray⟩] w fun e w' => e = .returned (.tuple #[.agg #[.int .i64 (fieldE s).1.1, .string ⟨(fieldE s).1.2.toArray⟩], .bool (fieldE s).2]) ∧ Below w.heap.size w w' := by
  obtain ⟨W, hW⟩ : ∃ W, w.alloc (.cells #[.int .i64 0, .string ⟨#[]⟩] 76) = W := ⟨_, rfl⟩
  have HBW := hid (show Below w.heap.size w W from hW ▸ ball w _)
  have HMW := hid (hM.on HBW.out)
  obtain ⟨m, hm⟩ := HMW.out.mx
  have CT := hid (Tryd.strings_Cut ⟨s.toArray⟩ ⟨#[61]⟩ m W (by simp [ByteArray.size]; omega) hm)
  simp only at CT
  have c0 : W.cell? ⟨w.heap.size, 0, none⟩ = some (.int .i64 0) := by subst hW; exact World.cell?_alloc_new _ _ _ _
  have c1 : W.cell? ⟨w.heap.size, 1, none⟩ = some (.string ⟨#[]⟩) := by subst hW; exact World.cell?_alloc_new _ _ _ _
  have f0 : W.frozen? ⟨w.heap.size, 0, none⟩ = false := by subst hW; exact World.frozen?_alloc_new _ _ _ _
  have f1 : W.frozen? ⟨w.heap.size, 1, none⟩ = false := by subst hW; exact World.frozen?_alloc_new _ _ _ _
  obtain ⟨R, hR⟩ : ∃ R, fieldE s = R := ⟨_, rfl⟩
  have HE := hid hR
  unfold fieldE at HE
  rw [hR]
  have hle : (Lib.cut s [61]).1.length ≤ s.length := by
    unfold Lib.cut
    split
    · simp; omega
    · exact Nat.le_refl _
  have hle2 : (Lib.cut s [61]).2.1.length ≤ s.length := by
    unfold Lib.cut
    split
    · simp
    · simp
  obtain ⟨hd, vl, ok, hcut⟩ : ∃ a b c, Lib.cut s [61] = (a, b, c) := ⟨_, _, _, rfl⟩
  rw [hcut] at CT HE hle hle2
  simp only at CT HE hle hle2
  have HWs := hid (show W.heap.size = w.heap.size + 1 by subst hW; simp)
  clear hcut hR hM hm
  have DB := hid (fun (n : Nat) => (show Below W.heap.size W (W.drewN n) from ⟨rfl, rfl, rfl, Nat.le_refl _, fun _ _ => rfl⟩))
  cases ok with
  | false =>
    rw [if_pos (Or.inl rfl)] at HE
    obtain rfl := HE.out
    clear HE
    go_enter Tryd.func82, Tryd.ntmps82
    go_wp2_with (first | (go_at_call 91; refine CT.out.mono ?_; rintro e w1 ⟨rfl, n, hw⟩; have hb : Below W.heap.size W w1 := hw ▸ DB.out n; have HB1 := hid (btr' HBW.out hb); have q0 := (hb.cell (cell_lt c0)).trans c0; have q1 := (hb.cell (cell_lt c1)).trans c1; have r0 := (hb.frozen (cell_lt c0)).trans f0; have r1 := (hb.frozen (cell_lt c1)).trans f1; have HM1 := hid (HMW.out.on hb); clear hb hw))
    refine bodyPost_ret (res28 Tryd.f82 2 3 Tryd.results82 _ _ w.heap.size (.int .i64 0) (.string ⟨#[]⟩) _ (by rfl) (by rfl) ?c0 ?c1) rfl ⟨rfl, ?bel⟩
    case c0 => exact (set2 q0 q1).1
    case c1 => exact (set2 q0 q1).2
    case bel =>
      repeat (first | exact HB1.out | apply Below.setCell)
      all_goals simp
  | true =>
    by_cases h4 : 4 < hd.length
    · rw [if_pos (Or.inr h4)] at HE
      obtain rfl := HE.out
      have g4 : (4 : Int) < (hd.length : Int) := by omega
      clear HE
      go_enter Tryd.func82, Tryd.ntmps82
      go_wp2_with (first | (go_at_call 91; refine CT.out.mono ?_; rintro e w1 ⟨rfl, n, hw⟩; have hb : Below W.heap.size W w1 := hw ▸ DB.out n; have HB1 := hid (btr' HBW.out hb); have q0 := (hb.cell (cell_lt c0)).trans c0; have q1 := (hb.cell (cell_lt c1)).trans c1; have r0 := (hb.frozen (cell_lt c0)).trans f0; have r1 := (hb.frozen (cell_lt c1)).trans f1; have HM1 := hid (HMW.out.on hb); clear hb hw))
      refine bodyPost_ret (res28 Tryd.f82 2 3 Tryd.results82 _ _ w.heap.size (.int .i64 0) (.string ⟨#[]⟩) _ (by rfl) (by rfl) ?c0 ?c1) rfl ⟨rfl, ?bel⟩
      case c0 => exact (set2 q0 q1).1
      case c1 => exact (set2 q0 q1).2
      case bel =>
        repeat (first | exact HB1.out | apply Below.setCell)
        all_goals simp
    · rw [if_neg (by rintro (h | h); cases h; exact h4 h)] at HE
      obtain rfl := HE.out
      have g4 : ¬ ((4 : Int) < (hd.length : Int)) := by omega
      have NB := hid (fun w' hL => number_any hd (by omega) w' hL)
      have hnb : (num hd).getD 0 < 100000 := by
        cases hn : num hd with
        | none => simp
        | some k => exact num_lt5 hd k hn (by omega)
      obtain ⟨nn, hnn⟩ : ∃ n, (num hd).getD 0 = n := ⟨_, rfl⟩
      obtain ⟨ob, hob⟩ : ∃ n, (num hd).isSome = n := ⟨_, rfl⟩
      rw [hnn] at NB hnb ⊢
      rw [hob] at NB ⊢
      have hwn : IntKind.i64.wrap (nn : Int) = (nn : Int) := by rw [IntKind.wrap_i64]; omega
      clear HE hnn hob
      go_enter Tryd.func82, Tryd.ntmps82
      go_wp2_with (first | (go_at_call 91; refine CT.out.mono ?_; rintro e w1 ⟨rfl, n, hw⟩; have hb : Below W.heap.size W w1 := hw ▸ DB.out n; have HB1 := hid (btr' HBW.out hb); have q0 := (hb.cell (cell_lt c0)).trans c0; have q1 := (hb.cell (cell_lt c1)).trans c1; have r0 := (hb.frozen (cell_lt c0)).trans f0; have r1 := (hb.frozen (cell_lt c1)).trans f1; have HM1 := hid (HMW.out.on hb); clear hb hw) | (go_at_call 85; refine (NB.out _ HM1.out.laye).mono ?_; rintro e w2 ⟨rfl, hb⟩; have HB2 := hid (btr' HB1.out hb); have p0 := (hb.cell (cell_lt q0)).trans q0; have p1 := (hb.cell (cell_lt q1)).trans q1; have t0 := (hb.frozen (cell_lt q0)).trans r0; have t1 := (hb.frozen (cell_lt q1)).trans r1; clear hb))
      refine bodyPost_ret (res28 Tryd.f82 2 3 Tryd.results82 _ _ w.heap.size (.int .i64 (nn : Int)) (.string ⟨vl.toArray⟩) _ (by rfl) (by rfl) ?c0 ?c1) rfl ⟨rfl, ?bel⟩
      case c0 => exact (set2 p0 p1).1
      case c1 => exact (set2 p0 p1).2
      case bel =>
        repeat (first | exact HB2.out | apply Below.setCell)
        all_goals simp
end Go.Proofs.YtacdjioieclggaaDoor
namespace Go.Proofs.YtacdjioieclggaaDoor
open Go.RowKit Go.Deep Go.Lib Go.Shelf Go.Sort
set_option linter.unusedVariables false
/-- what readBody tells: the kind, the fields; with an error the place where its field begins. -/
noncomputable def bodyR (body : List UInt8) : List UInt8 → Nat → Nat → List UInt8 → List (Int × List UInt8) → List UInt8 × List (Int × List UInt8) × Nat × Int
  | [], _, _, kind, l => (kind, l, 0, 0)
  | c :: r, i, g, kind, l =>
    if c ≠ 1 then bodyR body r (i + 1) g kind l
    else if (fieldE ((body.drop g).take (i - g))).2 = false then ([], [], g, 3)
    else if g = 0 then
      (if (kindE (fieldE ((body.drop g).take (i - g))).1).2 ≠ 0 then ([], [], g, (kindE (fieldE ((body.drop g).take (i - g))).1).2)
       else bodyR body r (i + 1) (i + 1) (kindE (fieldE ((body.drop g).take (i - g))).1).1 l)
    else if l.length = 64 then ([], [], g, 2)
    else if fitsE l (fieldE ((body.drop g).take (i - g))).1 ≠ 0 then ([], [], g, fitsE l (fieldE ((body.drop g).take (i - g))).1)
    else bodyR body r (i + 1) (i + 1) kind (l ++ [(fieldE ((body.drop g).take (i - g))).1])
/-- tags in a slice of one's own. -/
def OwnT (B : Nat) (W0 w : World) (v : Value) (l : List (Int × List UInt8)) : Prop := w.ownsRow B 76 2 v l.length (tv l) ∧ Below B W0 w ∧ B ≤ w.heap.size
theorem OwnT.on {B : Nat} {W0 w w' : World} {v : Value} {l : List (Int × List UInt8)} (h : OwnT B W0 w v l) (hb : Below w.heap.size w w') : OwnT B W0 w' v l := by
  obtain ⟨⟨h1, h2⟩, h3, h4⟩ := h
  refine ⟨⟨h1, ?_⟩, h3.trans (hb.mono h4), Nat.le_trans h4 hb.size⟩
  rcases h2 with h2 | ⟨g, cap, cur, e, hB, hg, r⟩
  · exact Or.inl h2
  · refine Or.inr ⟨g, cap, cur, e, hB, ?_, r⟩
    have hlt : g < w.heap.size := by
      rcases Nat.lt_or_ge g w.heap.size with h | h
      · exact h
      · rw [Array.getElem?_eq_none h] at hg; cases hg
    rw [hb.block g hlt]; exact hg
theorem OwnT.form {B : Nat} {W0 w : World} {v : Value} {l : List (Int × List UInt8)} (h : OwnT B W0 w v l) : ∃ q cap, v = .slice q l.length cap ∧ Ts w q l ∧ l.length ≤ cap ∧ cap < 9223372036854775808 := by
  rcases h.1.2 with ⟨rfl, hn⟩ | ⟨g, cap, cur, e, hB, hg, h5, h6, h7, h8⟩
  · have hl : l = [] := List.length_eq_zero_iff.1 hn
    subst hl
    exact ⟨none, 0, rfl, (fun i hi => by simp at hi), Nat.le_refl _, by decide⟩
  · refine ⟨some ⟨g, 0, none⟩, cap, e, ?_, h5, by unfold maxLen at h6; omega⟩
    have h := h.1
    rw [e] at h
    exact ts_own rfl h
theorem ownT_nil (w : World) : OwnT w.heap.size w w (.slice none 0 0) [] := ⟨World.ownsRow_nil _ _ _ _, Below.refl _ _, Nat.le_refl _⟩
theorem ownT_nilB {w w' : World} (h : Below w.heap.size w w') : OwnT w.heap.size w w' (.slice none 0 0) [] := ⟨World.ownsRow_nil _ _ _ _, h, h.size⟩
/-- one tag behind a slice of one's own. -/
theorem own_tag {ops : Array Oper} {rest : List Oper} {o : Oper} {a : Act} {Q : Exit → Act → World → Prop} (hgd : o.guard = none) (sl x : Operand)
    (ho : o.op = .call { callee := .builtin .append, args := #[sl, x], argTypes := #[71, 71] }) (B : Nat) (v : Value) (l : List (Int × List UInt8)) (hs : a.eval sl = v) (W0 w0 : World) (t : Int) (s : List UInt8) (hb0 : OwnT B W0 w0 v l) (hx : a.eval x = .slice (some ⟨w0.heap.size, 0, none⟩) 1 1) (hlen : l.length ≤ 1000)
    (h : ∀ v' w', OwnT B W0 w' v' (l ++ [(t, s)]) → wpList Tryd.prog ops Q rest (a.put o.dst v') w') : wpList Tryd.prog ops Q (o :: rest) a (w0.alloc (.cells #[.int .i64 t, .string ⟨s.toArray⟩] 76)) := by
  obtain ⟨i0, hi, hz0, hz1, hz2⟩ := info_parts info28all
  have hb' : OwnT B W0 (w0.alloc (.cells #[.int .i64 t, .string ⟨s.toArray⟩] 76)) v l := hb0.on (ball _ _)
  refine wpList_append_own _ hgd sl x 71 ho B 76 i0 _ 2 24 Tryd.underlying71 hi hz0 hz1 hz2 rfl (by decide) v l.length _ hs hb'.1 ⟨w0.heap.size, 0, none⟩ 1 1 (tv [(t, s)]) hx rfl ?_ (tv_one _) (by unfold maxLen; omega) (by omega) hb'.2.2 ?_
  · intro j u hj
    rw [Addr.add_mid, Nat.zero_add, World.cell?_alloc_new]
    simpa [tv] using hj
  · intro v' w' ho' hg _
    refine h v' w' ⟨?_, hb'.2.1.grown hg hb'.2.2 (fun k hk => (hb'.1.lt k hk).1), Nat.le_trans hb'.2.2 hg.size⟩
    rw [tv_append, List.length_append]
    exact ho'

theorem res4 (fn : Func) (p u v x : Tmp) (h : fn.results = #[.tmp p, .tmp u, .tmp v, .tmp x]) (tmps : Array Value) (w : World) (ep eu ev ex : Value)
    (hp : tmps.getD p undef = ep) (hu : tmps.getD u undef = eu) (hv : tmps.getD v undef = ev) (hx : tmps.getD x undef = ex) :
    (results fn tmps).run Tryd.prog w = .ok (.tuple #[ep, eu, ev, ex]) w := by
  have hp' : tmps[p]?.getD undef = ep := by simpa using hp
  have hu' : tmps[u]?.getD undef = eu := by simpa using hu
  have hv' : tmps[v]?.getD undef = ev := by simpa using hv
  have hx' : tmps[x]?.getD undef = ex := by simpa using hx
  simp [results, h, hp', hu', hv', hx']
theorem fieldE_len (s : List UInt8) : (fieldE s).1.2.length ≤ s.length := by
  unfold fieldE
  split
  · simp
  · show (Lib.cut s [61]).2.1.length ≤ s.length
    unfold Lib.cut
    split
    · simp
    · simp
theorem OwnT.form' {B : Nat} {W0 w : World} {q : Option Addr} {c n : Nat} {l : List (Int × List UInt8)} (h : OwnT B W0 w (.slice q n c) l) : Ts w q l := by
  obtain ⟨q', c', e, hT, _⟩ := h.form
  have : q = q' := by simp at e; exact e.1
  rw [this]; exact hT
theorem bodyR_cons (body : List UInt8) {i : Nat} (hi : i < body.length) (g : Nat) (kind : List UInt8) (l : List (Int × List UInt8)) : bodyR body (body.drop i) i g kind l = bodyR body (body[i] :: body.drop (i + 1)) i g kind l := by
  rw [← List.drop_eq_getElem_cons hi]

set_option maxHeartbeats 4000000 in
set_option maxRecDepth 100000 in
/-- text.readBody. -/
theorem readbody_any (body : List UInt8) (q : Option Addr) (cap : Nat) (w : World) (hl : body.length ≤ 5000) (hcap : body.length ≤ cap) (hcm : cap < 9223372036854775808) (hS : Sb w q body) (hM : LayM w) :
    Calls Tryd.prog 67 #[.slice q body.length cap] w fun e w' => ∃ v, e = .returned (.tuple #[.string ⟨(bodyR body body 0 0 [] []).1.toArray⟩, v, .int .i64 ((bodyR body body 0 0 [] []).2.2.1 : Nat), .int .i64 (bodyR body body 0 0 [] []).2.2.2]) ∧ OwnT w.heap.size w w' v (bodyR body body 0 0 [] []).2.1 := by
  have HS := hid hS
  have HM := hid hM
  obtain ⟨R, hR⟩ : ∃ R, bodyR body body 0 0 [] [] = R := ⟨_, rfl⟩
  rw [hR]
  have HR := hid hR
  clear hS hM hR
  go_enter Tryd.func67, Tryd.ntmps67
  go_wp2_with fail
  go_loopw [6, 7, 8, 15] (fun kv lv gv iv wr => ∃ (i g : Nat) (kind : List UInt8) (l : List (Int × List UInt8)), i ≤ body.length ∧ g ≤ i ∧ kv = .string ⟨kind.toArray⟩ ∧ gv = .int .i64 g ∧ iv = .int .i64 i ∧ l.length ≤ 64 ∧ Hid (OwnT w.heap.size w wr lv l) ∧ Hid (bodyR body (body.drop i) i g kind l = R)) (fun _ _ _ iv _ => body.length - (RowKit.intOf iv).toNat)
  case atStart => exact ⟨0, 0, [], [], Nat.zero_le _, Nat.le_refl _, rfl, rfl, rfl, by simp, hid (ownT_nil _), hid (by simpa using HR.out)⟩
  case round =>
    obtain ⟨i, g, kind, l, hi, hg, rfl, rfl, rfl, hl64, HO, HE⟩ := hrel
    by_cases hlt : i < body.length
    · obtain ⟨b, o, rfl, h0⟩ := (HS.out.on HO.out.2.1) i hlt
      obtain ⟨ql, cl, rfl, hTl, hcl, _⟩ := HO.out.form
      have i0 : (0 : Int) ≤ (i : Int) := by omega
      have i1 : (i : Int) < (body.length : Int) := by omega
      have he := HE.out
      rw [bodyR_cons body hlt] at he
      obtain ⟨c, hc⟩ : ∃ c, body[i] = c := ⟨_, rfl⟩
      rw [hc] at h0 he
      simp only [bodyR] at he
      by_cases hc1 : c = 1
      · rw [if_neg (by simpa using hc1)] at he
        subst hc1
        have j0 : (0 : Int) ≤ (g : Int) := by omega
        have j1 : (g : Int) ≤ (i : Int) := by omega
        have j2 : (i : Int) ≤ (cap : Int) := by omega
        have j3 : ¬ cap = g := by omega
        have hsl : ((body.drop g).take (i - g)).length = i - g := by simp; omega
        have CV := hid (conv_sb (((HS.out.on HO.out.2.1).drop g).take (i - g)) (cap - g))
        rw [hsl] at CV
        have RF := hid (fun w' hM => readfield_any ((body.drop g).take (i - g)) w' (by omega) hM)
        have hvl := fieldE_len ((body.drop g).take (i - g))
        rw [hsl] at hvl
        obtain ⟨SS, hSS⟩ : ∃ s, (body.drop g).take (i - g) = s := ⟨_, rfl⟩
        rw [hSS] at CV RF hvl he
        obtain ⟨z, v, ok, hf⟩ : ∃ z v ok, fieldE SS = ((z, v), ok) := ⟨_, _, _, rfl⟩
        rw [hf] at RF hvl he
        simp only at RF hvl he
        have cv := CV.out
        have hvl2 : v.length ≤ 5000 := by omega
        clear hSS hf hc hsl HE hTl
        cases ok with
        | false =>
          rw [if_pos rfl] at he
          subst he
          go_wp2_with (first | (go_at_call 82; refine (RF.out _ (HM.out.on HO.out.2.1)).mono ?_; rintro e w1 ⟨rfl, hb⟩; have HO1 := hid (HO.out.on (btr' hb (ball w1 (.cells #[.int .i64 z, .string ⟨v.toArray⟩] 76)))); have HW1 := hid (show Below wr.heap.size wr w1 from hb); clear hb))
          refine bodyPost_ret (res4 Tryd.f67 2 3 4 5 Tryd.results67 _ _ _ _ _ _ (by rfl) (by rfl) (by rfl) (by rfl)) rfl ?_
          exact ⟨_, rfl, ownT_nilB HO1.out.2.1⟩
        | true =>
          rw [if_neg (by decide)] at he
          by_cases hg0 : g = 0
          · rw [if_pos hg0] at he
            have KO := hid (fun w' => kindof_any z v w' (by omega))
            obtain ⟨k2, e2, hk2⟩ : ∃ k e, kindE (z, v) = (k, e) := ⟨_, _, rfl⟩
            rw [hk2] at KO he
            simp only at KO he
            subst hg0
            simp only [Nat.add_zero, Nat.sub_zero] at cv
            clear hk2
            by_cases he0 : e2 = 0
            · rw [if_neg (by simpa using he0)] at he
              subst he0
              have HE2 := hid he
              clear he
              go_wp2_with (first | (go_at_call 82; refine (RF.out _ (HM.out.on HO.out.2.1)).mono ?_; rintro e w1 ⟨rfl, hb⟩; have HO1 := hid (HO.out.on (btr' hb (ball w1 (.cells #[.int .i64 z, .string ⟨v.toArray⟩] 76)))); have HW1 := hid (show Below wr.heap.size wr w1 from hb); clear hb) | (go_at_call 83; refine (KO.out _).mono ?_; rintro e w2 ⟨rfl, hb⟩; have HO2 := hid (HO1.out.on hb); clear hb))
              go_roundw
              case rel => exact ⟨i + 1, i + 1, k2, l, by omega, Nat.le_refl _, rfl, by go_num, by go_num, hl64, HO2, HE2⟩
              case measure => simp [RowKit.intOf]; omega
            · rw [if_pos he0] at he
              subst he
              have hne : (e2 != 0) = true := by simpa using he0
              clear he0
              go_wp2_with (first | (go_at_call 82; refine (RF.out _ (HM.out.on HO.out.2.1)).mono ?_; rintro e w1 ⟨rfl, hb⟩; have HO1 := hid (HO.out.on (btr' hb (ball w1 (.cells #[.int .i64 z, .string ⟨v.toArray⟩] 76)))); have HW1 := hid (show Below wr.heap.size wr w1 from hb); clear hb) | (go_at_call 83; refine (KO.out _).mono ?_; rintro e w2 ⟨rfl, hb⟩; have HO2 := hid (HO1.out.on hb); clear hb))
              refine bodyPost_ret (res4 Tryd.f67 2 3 4 5 Tryd.results67 _ _ _ _ _ _ (by rfl) (by rfl) (by rfl) (by rfl)) rfl ?_
              exact ⟨_, rfl, ownT_nilB HO2.out.2.1⟩
          · rw [if_neg hg0] at he
            have hgf : ((g : Int) == 0) = false := by simp; omega
            clear hg0
            by_cases h64 : l.length = 64
            · rw [if_pos h64] at he
              subst he
              have g64 : ((l.length : Int) == 64) = true := by simp; omega
              clear h64
              go_wp2_with (first | (go_at_call 82; refine (RF.out _ (HM.out.on HO.out.2.1)).mono ?_; rintro e w1 ⟨rfl, hb⟩; have HO1 := hid (HO.out.on (btr' hb (ball w1 (.cells #[.int .i64 z, .string ⟨v.toArray⟩] 76)))); have HW1 := hid (show Below wr.heap.size wr w1 from hb); clear hb))
              refine bodyPost_ret (res4 Tryd.f67 2 3 4 5 Tryd.results67 _ _ _ _ _ _ (by rfl) (by rfl) (by rfl) (by rfl)) rfl ?_
              exact ⟨_, rfl, ownT_nilB HO1.out.2.1⟩
            · rw [if_neg h64] at he
              have g64 : ((l.length : Int) == 64) = false := by simp; omega
              have hl63 : l.length + 1 ≤ 64 := by omega
              have FT := hid (fun w' hT => fits_any l ql cl z v w' (by omega) (by omega) hT)
              obtain ⟨e2, hk2⟩ : ∃ e, fitsE l (z, v) = e := ⟨_, rfl⟩
              rw [hk2] at FT he
              clear hk2 h64
              by_cases he0 : e2 = 0
              · rw [if_neg (by simpa using he0)] at he
                subst he0
                have HE2 := hid he
                clear he
                go_wp2_with (first | (go_at_call 82; refine (RF.out _ (HM.out.on HO.out.2.1)).mono ?_; rintro e w1 ⟨rfl, hb⟩; have HO1 := hid (HO.out.on (btr' hb (ball w1 (.cells #[.int .i64 z, .string ⟨v.toArray⟩] 76)))); have HW1 := hid (show Below wr.heap.size wr w1 from hb); clear hb) | (go_at_call 76; refine (FT.out _ HO1.out.form').mono ?_; rintro e w2 ⟨rfl, hb⟩; have HO2 := hid (HO1.out.on hb); have b20 := cell_new 0 hb rfl; have b21 := cell_new 1 hb rfl; clear hb) | (at_builtin; refine own_tag (by rfl) (.tmp 35) (.tmp 37) (by rfl) w.heap.size _ l (by rfl) w w2 z v HO2.out (by rfl) (by omega) ?_; intro v3 w3 hO3; have HO3 := hid hO3; clear hO3))
                go_roundw
                case rel => exact ⟨i + 1, i + 1, kind, l ++ [(z, v)], by omega, Nat.le_refl _, rfl, by go_num, by go_num, by simp; omega, HO3, HE2⟩
                case measure => simp [RowKit.intOf]; omega
              · rw [if_pos he0] at he
                subst he
                have hne : (e2 != 0) = true := by simpa using he0
                clear he0
                go_wp2_with (first | (go_at_call 82; refine (RF.out _ (HM.out.on HO.out.2.1)).mono ?_; rintro e w1 ⟨rfl, hb⟩; have HO1 := hid (HO.out.on (btr' hb (ball w1 (.cells #[.int .i64 z, .string ⟨v.toArray⟩] 76)))); have HW1 := hid (show Below wr.heap.size wr w1 from hb); clear hb) | (go_at_call 76; refine (FT.out _ HO1.out.form').mono ?_; rintro e w2 ⟨rfl, hb⟩; have HO2 := hid (HO1.out.on hb); have b20 := cell_new 0 hb rfl; have b21 := cell_new 1 hb rfl; clear hb) | (at_builtin; refine own_tag (by rfl) (.tmp 35) (.tmp 37) (by rfl) w.heap.size _ l (by rfl) w w2 z v HO2.out (by rfl) (by omega) ?_; intro v3 w3 hO3; have HO3 := hid hO3; clear hO3))
                refine bodyPost_ret (res4 Tryd.f67 2 3 4 5 Tryd.results67 _ _ _ _ _ _ (by rfl) (by rfl) (by rfl) (by rfl)) rfl ?_
                exact ⟨_, rfl, ownT_nilB HO3.out.2.1⟩
      · rw [if_pos hc1] at he
        have HE2 := hid he
        have hne : ((c.toNat : Int) != 1) = true := by
          simp
          intro e
          have e2 : c.toNat = 1 := by omega
          exact hc1 (UInt8.toNat_inj.1 (by simpa using e2))
        clear he hc1 hc
        go_wp2
        go_roundw
        case rel => exact ⟨i + 1, g, kind, l, by omega, by omega, rfl, rfl, by go_num, hl64, HO, HE2⟩
        case measure => simp [RowKit.intOf]; omega
    · have he := HE.out
      rw [List.drop_eq_nil_of_le (by omega)] at he
      simp only [bodyR] at he
      subst he
      go_wp2
      refine bodyPost_ret (res4 Tryd.f67 2 3 4 5 Tryd.results67 _ _ _ _ _ _ (by rfl) (by rfl) (by rfl) (by rfl)) rfl ?_
      exact ⟨_, rfl, HO.out⟩
end Go.Proofs.YtacdjioieclggaaDoor
namespace Go.Proofs.YtacdjioieclggaaDoor
open Go.RowKit Go.Deep Go.Lib Go.Shelf Go.Sort
set_option linter.unusedVariables false
theorem OwnT.down {B B0 : Nat} {W1 W0 w : World} {v : Value} {l : List (Int × List UInt8)} (h : OwnT B W0 w v l) (hb : Below B0 W1 W0) (hB : B0 ≤ B) : OwnT B0 W1 w v l := by
  obtain ⟨⟨h1, h2⟩, h3, h4⟩ := h
  refine ⟨⟨h1, ?_⟩, hb.trans (h3.mono hB), Nat.le_trans hB h4⟩
  rcases h2 with h2 | ⟨g, cap, cur, e, hg, r⟩
  · exact Or.inl h2
  · exact Or.inr ⟨g, cap, cur, e, Nat.le_trans hB hg, r⟩
theorem outE_ok {l : List UInt8} {f t p : Nat} (h : outE l = ((f, t), p, 0)) : p = 0 ∧ 11 ≤ f ∧ f < t ∧ t + 7 ≤ 2048 ∧ t + 7 ≤ l.length := by
  unfold outE at h
  split at h
  · rename_i hn; simp only [Prod.mk.injEq] at h; exact absurd h.2.2 hn
  · rename_i hb
    split at h
    · rename_i hn; simp only [Prod.mk.injEq] at h; exact absurd h.2.2 hn
    · rename_i hl
      obtain ⟨h10, _⟩ := begE_ok l 10 0 (by simpa using hb) (Nat.zero_le _)
      obtain ⟨f', t', p', e', he⟩ : ∃ f t p e, lenE l = ((f, t), p, e) := ⟨_, _, _, _, rfl⟩
      rw [he] at h hl
      simp only [ne_eq, Decidable.not_not] at h hl
      subst hl
      obtain ⟨rfl, k1, k2, k3, k4⟩ := lenE_ok he (by omega)
      split at h
      · simp at h
      · rename_i hs
        split at h
        · simp at h
        · rename_i hT
          split at h
          · simp at h
          · simp only [Prod.mk.injEq] at h
            obtain ⟨⟨rfl, rfl⟩, rfl, _⟩ := h
            refine ⟨rfl, k1, ?_, k3, by omega⟩
            rcases Nat.lt_or_ge f' t' with h | h
            · exact h
            · exact absurd (Or.inr (Or.inl (by omega))) hT
theorem bodyR_place (body : List UInt8) : ∀ (r : List UInt8) (i g : Nat) (kind : List UInt8) (l : List (Int × List UInt8)), g ≤ i → (bodyR body r i g kind l).2.2.1 ≤ i + r.length
  | [], i, g, kind, l, h => by simp [bodyR]
  | c :: r, i, g, kind, l, h => by
    have h1 := bodyR_place body r (i + 1) g kind l (by omega)
    have h2 := fun k l => bodyR_place body r (i + 1) (i + 1) k l (by omega)
    have h3 : i + 1 + r.length = i + (c :: r).length := by simp; omega
    rw [h3] at h1 h2
    unfold bodyR
    repeat' split
    all_goals first | exact h1 | exact h2 _ _ | (simp; omega)

/-- what Decode tells. -/
noncomputable def decR (l : List UInt8) : List UInt8 × List (Int × List UInt8) × Nat × Int :=
  if (outE l).2.2 ≠ 0 then ([], [], (outE l).2.1, (outE l).2.2)
  else if (bodyR ((l.drop (outE l).1.1).take ((outE l).1.2 - (outE l).1.1)) ((l.drop (outE l).1.1).take ((outE l).1.2 - (outE l).1.1)) 0 0 [] []).2.2.2 ≠ 0 then
    ([], [], (outE l).1.1 + (bodyR ((l.drop (outE l).1.1).take ((outE l).1.2 - (outE l).1.1)) ((l.drop (outE l).1.1).take ((outE l).1.2 - (outE l).1.1)) 0 0 [] []).2.2.1, (bodyR ((l.drop (outE l).1.1).take ((outE l).1.2 - (outE l).1.1)) ((l.drop (outE l).1.1).take ((outE l).1.2 - (outE l).1.1)) 0 0 [] []).2.2.2)
  else ((bodyR ((l.drop (outE l).1.1).take ((outE l).1.2 - (outE l).1.1)) ((l.drop (outE l).1.1).take ((outE l).1.2 - (outE l).1.1)) 0 0 [] []).1, (bodyR ((l.drop (outE l).1.1).take ((outE l).1.2 - (outE l).1.1)) ((l.drop (outE l).1.1).take ((outE l).1.2 - (outE l).1.1)) 0 0 [] []).2.1, (outE l).1.2 + 7, 0)

set_option maxHeartbeats 4000000 in
set_option maxRecDepth 100000 in
/-- text.Decode. -/
theorem decode_any (l : List UInt8) (q : Option Addr) (cap : Nat) (w : World) (hl : l.length < 4611686018427387904) (hcap : l.length ≤ cap) (hcm : cap < 9223372036854775808) (hS : Sb w q l) (hM : LayM w) :
    Calls Tryd.prog 34 #[.slice q l.length cap] w fun e w' => ∃ v, e = .returned (.tuple #[.string ⟨(decR l).1.toArray⟩, v, .int .i64 ((decR l).2.2.1 : Nat), .int .i64 (decR l).2.2.2]) ∧ OwnT w.heap.size w w' v (decR l).2.1 := by
  have HS := hid hS
  have HM := hid hM
  have OL := hid (outline_any l q cap w hl hcap hcm hS hM.laye)
  obtain ⟨R, hR⟩ : ∃ R, decR l = R := ⟨_, rfl⟩
  rw [hR]
  unfold decR at hR
  obtain ⟨f, t, p, e, ho⟩ : ∃ f t p e, outE l = ((f, t), p, e) := ⟨_, _, _, _, rfl⟩
  rw [ho] at OL hR
  simp only [lenV] at OL
  simp only at hR
  by_cases he : e = 0
  · subst he
    rw [if_neg (by simp)] at hR
    obtain ⟨rfl, k1, k2, k3, k4⟩ := outE_ok ho
    obtain ⟨b, o, rfl, _⟩ := hS 0 (by omega)
    have hBl : ((l.drop f).take (t - f)).length = t - f := by simp; omega
    have RB := hid (fun w' hS hM => readbody_any ((l.drop f).take (t - f)) (some ⟨b, o + f, none⟩) (cap - f) w' (by omega) (by omega) (by omega) hS hM)
    have HSB := hid ((hS.drop f).take (t - f))
    have hpl := bodyR_place ((l.drop f).take (t - f)) ((l.drop f).take (t - f)) 0 0 [] [] (Nat.le_refl _)
    rw [hBl] at RB hpl
    obtain ⟨BD, hBD⟩ : ∃ x, (l.drop f).take (t - f) = x := ⟨_, rfl⟩
    rw [hBD] at RB HSB hR hpl
    obtain ⟨kd, tg, pl, e2, hB⟩ : ∃ a b c d, bodyR BD BD 0 0 [] [] = (a, b, c, d) := ⟨_, _, _, _, rfl⟩
    rw [hB] at RB hR hpl
    simp only at RB hR hpl
    have EN := hid (fun w' => end_any f t w' (by omega))
    have i0 : (0 : Int) ≤ (f : Int) := by omega
    have i1 : (f : Int) ≤ (t : Int) := by omega
    have i2 : (t : Int) ≤ (cap : Int) := by omega
    have i3 : ¬ cap = f := by omega
    have wr1 : IntKind.i64.wrap ((f : Int) + (pl : Int)) = (f : Int) + (pl : Int) := by rw [IntKind.wrap_i64]; omega
    clear ho hBD hB hBl hM hS hcm
    by_cases he2 : e2 = 0
    · subst he2
      rw [if_neg (by simp)] at hR
      subst hR
      go_enter Tryd.func34, Tryd.ntmps34
      go_wp2_with (first | (go_at_call 66; refine OL.out.mono ?_; rintro e w1 ⟨rfl, hb⟩; have HB1 := hid (show Below w.heap.size w w1 from hb); clear hb) | (go_at_call 67; refine (RB.out _ (HSB.out.on (btr' HB1.out (ball _ _))) (HM.out.on (btr' HB1.out (ball _ _)))).mono ?_; rintro e w2 ⟨v2, rfl, ho2⟩; have q20 := cell_new 0 ho2.2.1 rfl; have q21 := cell_new 1 ho2.2.1 rfl; have HO2 := hid (ho2.down (btr' HB1.out (ball _ _)) (btr' HB1.out (ball _ _)).size); clear ho2) | (go_at_call 68; refine (EN.out _).mono ?_; rintro e w3 ⟨rfl, hb⟩; have HO3 := hid (HO2.out.on hb); clear hb))
      refine bodyPost_ret (res4 Tryd.f34 2 3 4 5 Tryd.results34 _ _ _ _ _ _ (by rfl) (by rfl) (by rfl) (by rfl)) rfl ?_
      exact ⟨_, rfl, HO3.out⟩
    · rw [if_pos he2] at hR
      subst hR
      have hne : (e2 != 0) = true := by simpa using he2
      clear he2
      go_enter Tryd.func34, Tryd.ntmps34
      go_wp2_with (first | (go_at_call 66; refine OL.out.mono ?_; rintro e w1 ⟨rfl, hb⟩; have HB1 := hid (show Below w.heap.size w w1 from hb); clear hb) | (go_at_call 67; refine (RB.out _ (HSB.out.on (btr' HB1.out (ball _ _))) (HM.out.on (btr' HB1.out (ball _ _)))).mono ?_; rintro e w2 ⟨v2, rfl, ho2⟩; have q20 := cell_new 0 ho2.2.1 rfl; have q21 := cell_new 1 ho2.2.1 rfl; have HO2 := hid (ho2.down (btr' HB1.out (ball _ _)) (btr' HB1.out (ball _ _)).size); clear ho2))
      go_quiet (fail)
      go_wp2
      refine bodyPost_ret (res4 Tryd.f34 2 3 4 5 Tryd.results34 _ _ _ _ _ _ (by rfl) (by rfl) (by rfl) (by rfl)) rfl ?_
      exact ⟨_, rfl, ownT_nilB (HO2.out.2.1.trans ⟨rfl, rfl, rfl, Nat.le_refl _, fun _ _ => rfl⟩)⟩
  · rw [if_pos he] at hR
    subst hR
    have hne : (e != 0) = true := by simpa using he
    clear he
    go_enter Tryd.func34, Tryd.ntmps34
    go_wp2_with (first | (go_at_call 66; refine OL.out.mono ?_; rintro e w1 ⟨rfl, hb⟩; have HB1 := hid (show Below w.heap.size w w1 from hb); clear hb))
    refine bodyPost_ret (res4 Tryd.f34 2 3 4 5 Tryd.results34 _ _ _ _ _ _ (by rfl) (by rfl) (by rfl) (by rfl)) rfl ?_
    exact ⟨_, rfl, ownT_nilB (btr' HB1.out (ball _ _))⟩
end Go.Proofs.YtacdjioieclggaaDoor
namespace Go.Proofs.YtacdjioieclggaaDoor
open Go.RowKit Go.Deep Go.Lib Go.Shelf Go.Sort
set_option linter.unusedVariables false
theorem three_plain (n : Nat) (hn : n < 256) : (decDigits (1000 + n)).drop 1 = [UInt8.ofNat (48 + n / 100), UInt8.ofNat (48 + n / 10 % 10), UInt8.ofNat (48 + n % 10)] := by
  have e3 : decDigits (1000 + n) = decDigits ((1000 + n) / 10) ++ [UInt8.ofNat (48 + (1000 + n) % 10)] := by rw [decDigits, dif_neg (by omega)]
  have e2 : decDigits ((1000 + n) / 10) = decDigits ((1000 + n) / 10 / 10) ++ [UInt8.ofNat (48 + (1000 + n) / 10 % 10)] := by rw [decDigits, dif_neg (by omega)]
  have e1 : decDigits ((1000 + n) / 10 / 10) = [UInt8.ofNat (48 + (1000 + n) / 10 / 10 / 10), UInt8.ofNat (48 + (1000 + n) / 10 / 10 % 10)] := decDigits_two (by omega) (by omega)
  rw [e3, e2, e1, show (1000 + n) / 10 / 10 % 10 = n / 100 by omega, show (1000 + n) / 10 % 10 = n / 10 % 10 by omega, show (1000 + n) % 10 = n % 10 by omega]
  rfl
end Go.Proofs.YtacdjioieclggaaDoor
namespace Go.Proofs.YtacdjioieclggaaDoor
open Go.RowKit Go.Deep Go.Lib Go.Shelf Go.Sort
set_option linter.unusedVariables false
theorem digN_line : ∀ (ds pre r : List UInt8) (c : UInt8) (k : Nat), (∀ d ∈ ds, Dig d) → ¬ Dig c → ds.length < k → digN (pre ++ (ds ++ c :: r)) pre.length k = pre.length + ds.length
  | [], pre, r, c, 0, _, _, hk => by simp at hk
  | [], pre, r, c, k + 1, _, hc, _ => by simp [digN, hc]
  | d :: ds, pre, r, c, 0, _, _, hk => by simp at hk
  | d :: ds, pre, r, c, k + 1, hd, hc, hk => by
    have h := digN_line ds (pre ++ [d]) r c k (fun x hx => hd x (List.mem_cons_of_mem _ hx)) hc (by simpa using hk)
    have e : pre ++ (d :: ds ++ c :: r) = pre ++ [d] ++ (ds ++ c :: r) := by simp
    have e0 : (pre ++ (d :: ds ++ c :: r))[pre.length]? = some d := by simp
    unfold digN
    rw [e0]
    simp only [if_pos (hd d List.mem_cons_self)]
    rw [e]
    rw [List.length_append] at h
    simp only [List.length_cons, List.length_nil] at h ⊢
    rw [show pre.length + (0 + 1) = pre.length + 1 by omega] at h
    rw [h]
    omega
theorem begE_line (r : List UInt8) : begE ([56, 61, 66, 82, 83, 46, 49, 1, 57, 61] ++ r) 0 10 = (0, 0) := by
  simp [begE, beg]
theorem dec_four (n : Nat) (h : n < 2048) : (decDigits n).length ≤ 4 := by
  have : ∀ n : Fin 2048, (decDigits n.1).length ≤ 4 := by decide +kernel
  exact this ⟨n, h⟩
theorem not_dig_one : ¬ Dig (1 : UInt8) := by unfold Dig; decide
theorem lenE_line (n : Nat) (r : List UInt8) (h : 10 + (decDigits n).length + 1 + n + 7 ≤ 2048) :
    lenE ([56, 61, 66, 82, 83, 46, 49, 1, 57, 61] ++ (decDigits n ++ 1 :: r)) = ((10 + (decDigits n).length + 1, 10 + (decDigits n).length + 1 + n), 0, 0) := by
  have h4 := dec_four n (by omega)
  have hd := digN_line (decDigits n) [] r 1 5 (dec_dig n) not_dig_one (by omega)
  simp only [List.nil_append, List.length_nil, Nat.zero_add] at hd
  have e : ([56, 61, 66, 82, 83, 46, 49, 1, 57, 61] ++ (decDigits n ++ 1 :: r)).drop 10 = decDigits n ++ 1 :: r := by simp
  have el : ([56, 61, 66, 82, 83, 46, 49, 1, 57, 61] ++ (decDigits n ++ 1 :: r)).length = 10 + ((decDigits n).length + (r.length + 1)) := by simp; omega
  have e1 : ([56, 61, 66, 82, 83, 46, 49, 1, 57, 61] ++ (decDigits n ++ 1 :: r))[10 + (decDigits n).length]? = some (1 : UInt8) := by
    rw [List.getElem?_append_right (by simp)]
    simp
  unfold lenE
  rw [e, hd, el, e1, List.take_left' rfl, num_dec n (by omega)]
  rw [if_neg (by omega)]
  simp only
  rw [if_neg (by rintro (h | h); omega; exact h rfl), if_neg (by omega)]
/-- bytes that are no mark are gone by. -/
theorem bodyR_by (body : List UInt8) : ∀ (s r : List UInt8) (i g : Nat) (kind : List UInt8) (l : List (Int × List UInt8)), (1 : UInt8) ∉ s → bodyR body (s ++ r) i g kind l = bodyR body r (i + s.length) g kind l
  | [], r, i, g, kind, l, _ => by simp
  | c :: s, r, i, g, kind, l, h => by
    have hc : c ≠ 1 := fun e => h (e ▸ List.mem_cons_self)
    have h2 := bodyR_by body s r (i + 1) g kind l (fun hm => h (List.mem_cons_of_mem _ hm))
    rw [List.cons_append]
    simp only [bodyR]
    rw [if_pos hc, h2, List.length_cons, show i + 1 + s.length = i + (s.length + 1) by omega]
theorem flat_last : ∀ (l : List (Int × List UInt8)) (b : List UInt8), ∃ b', (b ++ [1]) ++ l.flatMap fieldB = b' ++ [1]
  | [], b => ⟨b, by simp⟩
  | x :: l, b => by
    obtain ⟨b', h⟩ := flat_last l (b ++ [1] ++ decDigits x.1.toNat ++ 61 :: x.2)
    refine ⟨b', ?_⟩
    rw [← h]
    simp [fieldB]
theorem body_last (kind : List UInt8) (l : List (Int × List UInt8)) : ∃ b, bodyB kind l = b ++ [1] := by
  obtain ⟨b, h⟩ := flat_last l (decDigits 35 ++ 61 :: kind)
  refine ⟨b, ?_⟩
  rw [← h]
  simp [bodyB, fieldB]
theorem trail_ok (y : List UInt8) : TrailOk (trailB y) := by
  have hs := sumB_lt y
  unfold trailB
  rw [three_plain _ hs]
  intro i h
  have d0 := (dig_of (sumB y / 100) (by omega)).1
  have d1 := (dig_of (sumB y / 10 % 10) (by omega)).1
  have d2 := (dig_of (sumB y % 10) (by omega)).1
  match i, h with
  | 0, _ => exact Or.inr rfl
  | 1, _ => exact Or.inr rfl
  | 2, _ => exact Or.inr rfl
  | 3, _ => exact Or.inl ⟨by decide, by decide, d0⟩
  | 4, _ => exact Or.inl ⟨by decide, by decide, d1⟩
  | 5, _ => exact Or.inl ⟨by decide, by decide, d2⟩
  | 6, _ => exact Or.inr rfl
  | (i + 7), h => exact absurd h (by simp)
/-- what is found of a line, whatever stands behind it. -/
theorem outE_line (kind : List UInt8) (l : List (Int × List UInt8)) (r : List UInt8) (h : (lineB kind l).length ≤ 2048) :
    outE (lineB kind l ++ r) = ((10 + (decDigits (bodyB kind l).length).length + 1, (aheadB kind l).length), 0, 0) := by
  have h7 := trailB_len (aheadB kind l)
  have hA : (aheadB kind l).length = 10 + (decDigits (bodyB kind l).length).length + 1 + (bodyB kind l).length := by rw [aheadB_len, decDigits_length]
  have hL : (lineB kind l).length = (aheadB kind l).length + 7 := by unfold lineB; rw [List.length_append, h7]
  have e1 : lineB kind l ++ r = [56, 61, 66, 82, 83, 46, 49, 1, 57, 61] ++ (decDigits (bodyB kind l).length ++ 1 :: (bodyB kind l ++ (trailB (aheadB kind l) ++ r))) := by
    unfold lineB
    conv => lhs; arg 1; arg 1; unfold aheadB headB
    simp
  have e2 : lineB kind l ++ r = aheadB kind l ++ (trailB (aheadB kind l) ++ r) := by unfold lineB; simp
  have hlen := lenE_line (bodyB kind l).length (bodyB kind l ++ (trailB (aheadB kind l) ++ r)) (by omega)
  rw [← e1, ← hA] at hlen
  obtain ⟨b, hb⟩ := body_last kind l
  have hbn : 0 < (bodyB kind l).length := by rw [hb]; simp
  have hlast : (lineB kind l ++ r)[(aheadB kind l).length - 1]? = some 1 := by
    have e3 : aheadB kind l = headB (bodyB kind l).length ++ [1] ++ b ++ [1] := by
      conv => lhs; unfold aheadB; arg 2; rw [hb]
      simp
    obtain ⟨a, ha⟩ : ∃ a, headB (bodyB kind l).length ++ [1] ++ b = a := ⟨_, rfl⟩
    rw [ha] at e3
    rw [e2, e3]
    simp
  have htk : ((lineB kind l ++ r).drop (aheadB kind l).length).take 7 = trailB (aheadB kind l) := by
    rw [e2, List.drop_left' rfl, List.take_left' h7]
  have hta : (lineB kind l ++ r).take (aheadB kind l).length = aheadB kind l := by rw [e2, List.take_left' rfl]
  unfold outE
  rw [hlen]
  simp only
  rw [htk, hta, hlast]
  have hbg : begE (lineB kind l ++ r) 0 10 = (0, 0) := by rw [e1]; exact begE_line _
  rw [hbg]
  have hfl : (lineB kind l ++ r).length = (aheadB kind l).length + 7 + r.length := by rw [List.length_append, hL]
  rw [if_neg (by simp), if_neg (by simp), if_neg (by omega), if_neg (by rintro (h | h | h); exact h (trail_ok _); omega; exact h rfl), if_neg (by simp)]
end Go.Proofs.YtacdjioieclggaaDoor
namespace Go.Proofs.YtacdjioieclggaaDoor
open Go.RowKit Go.Deep Go.Lib Go.Shelf Go.Sort
set_option linter.unusedVariables false
theorem index_at : ∀ (ds v : List UInt8), (61 : UInt8) ∉ ds → Lib.index (ds ++ 61 :: v) [61] = (ds.length : Int)
  | [], v, _ => by simp [Lib.index]
  | d :: ds, v, h => by
    have h1 : ((61 : UInt8) == d) = false := by
      simp only [beq_eq_false_iff_ne, ne_eq]
      exact fun e => h (e ▸ List.mem_cons_self)
    have h2 := index_at ds v (fun hm => h (List.mem_cons_of_mem _ hm))
    rw [List.cons_append]
    unfold Lib.index
    rw [h2]
    have h3 : ((ds.length : Int) == -1) = false := by
      simp only [beq_eq_false_iff_ne, ne_eq]
      omega
    simp [List.isPrefixOf, h1, h3]
theorem cut_at (ds v : List UInt8) (h : (61 : UInt8) ∉ ds) : Lib.cut (ds ++ 61 :: v) [61] = (ds, v, true) := by
  unfold Lib.cut
  rw [index_at ds v h, if_pos (by omega)]
  simp
theorem nd_up (k : Nat) (h : ∀ n, n < 10 ^ k → nDigits n ≤ k) (hk : 1 ≤ k) : ∀ n, n < 10 ^ (k + 1) → nDigits n ≤ k + 1 := by
  intro n hn
  rw [Nat.pow_succ] at hn
  unfold nDigits
  split
  · omega
  · have := h (n / 10) (by omega)
    omega
theorem dec_four' (n : Nat) (h : n < 10000) : (decDigits n).length ≤ 4 := by
  rw [decDigits_length]
  have h1 : ∀ n, n < 10 ^ 1 → nDigits n ≤ 1 := fun n hn => by unfold nDigits; split <;> omega
  exact nd_up 3 (nd_up 2 (nd_up 1 h1 (by decide)) (by decide)) (by decide) n (by omega)
theorem dig_no {c : UInt8} (h : Dig c) : c ≠ 61 ∧ c ≠ 1 := by
  unfold Dig at h
  constructor
  · rintro rfl; revert h; decide
  · rintro rfl; revert h; decide
theorem fieldE_line (t : Nat) (ht : t < 10000) (v : List UInt8) : fieldE (decDigits t ++ 61 :: v) = (((t : Int), v), true) := by
  have hn : (61 : UInt8) ∉ decDigits t := fun hm => (dig_no (dec_dig t _ hm)).1 rfl
  have h4 := dec_four' t ht
  unfold fieldE
  rw [cut_at _ _ hn, if_neg (by simp; omega)]
  simp [num_dec t (by omega)]
/-- the fields behind the first one. -/
theorem bodyR_fields (body kind : List UInt8) : ∀ (r a : List (Int × List UInt8)) (pre : List UInt8), body = pre ++ r.flatMap fieldB → 0 < pre.length → firstE a r = 0 → a.length + r.length ≤ 64 → bodyR body (r.flatMap fieldB) pre.length pre.length kind a = (kind, a ++ r, 0, 0)
  | [], a, pre, _, _, _, _ => by simp [bodyR]
  | x :: r, a, pre, hb, hp, hf, hl => by
    have hx : fitsE a x = 0 ∧ firstE (a ++ [x]) r = 0 := by
      unfold firstE at hf
      split at hf
      · rename_i h; exact ⟨h, hf⟩
      · rename_i h; exact absurd hf h
    obtain ⟨⟨t0, t1, _⟩, hv⟩ := fits_tag hx.1
    obtain ⟨s, hs⟩ : ∃ s, decDigits x.1.toNat ++ 61 :: x.2 = s := ⟨_, rfl⟩
    have h1 : (1 : UInt8) ∉ s := by
      rw [← hs]
      intro hm
      rcases List.mem_append.1 hm with hm | hm
      · exact (dig_no (dec_dig _ _ hm)).2 rfl
      · rcases List.mem_cons.1 hm with hm | hm
        · revert hm; decide
        · have := hv.2 _ hm
          revert this; decide
    have e : (x :: r).flatMap fieldB = s ++ 1 :: r.flatMap fieldB := by rw [← hs]; simp [fieldB]
    have hfe : fieldE s = (x, true) := by
      rw [← hs, fieldE_line _ (by omega), show ((x.1.toNat : Nat) : Int) = x.1 by omega]
    have hcut : (body.drop pre.length).take (pre.length + s.length - pre.length) = s := by
      rw [hb, e, List.drop_left' rfl, show pre.length + s.length - pre.length = s.length by omega, List.take_left' rfl]
    have ih := bodyR_fields body kind r (a ++ [x]) (pre ++ s ++ [1]) (by rw [hb, e]; simp) (by simp; omega) hx.2 (by simp at hl ⊢; omega)
    rw [e, bodyR_by _ _ _ _ _ _ _ h1]
    simp only [bodyR]
    rw [hcut, hfe, if_neg (by simp), if_neg (by simp), if_neg (by omega), if_neg (by simp at hl; omega), if_neg (by simpa using hx.1)]
    simp only [List.length_append, List.length_cons, List.length_nil, Nat.zero_add] at ih
    rw [ih]
    simp
theorem bodyR_line (kind : List UInt8) (l : List (Int × List UInt8)) (hk : KindOk kind) (hl : l.length ≤ 64) (hf : firstE [] l = 0) : bodyR (bodyB kind l) (bodyB kind l) 0 0 [] [] = (kind, l, 0, 0) := by
  obtain ⟨s, hs⟩ : ∃ s, decDigits 35 ++ 61 :: kind = s := ⟨_, rfl⟩
  have h1 : (1 : UInt8) ∉ s := by
    rw [← hs]
    intro hm
    rcases List.mem_append.1 hm with hm | hm
    · exact (dig_no (dec_dig _ _ hm)).2 rfl
    · rcases List.mem_cons.1 hm with hm | hm
      · revert hm; decide
      · have := hk.2 _ hm
        revert this; decide
  have e : bodyB kind l = s ++ 1 :: l.flatMap fieldB := by rw [← hs]; simp [bodyB, fieldB]
  have hfe : fieldE s = ((35, kind), true) := by rw [← hs, fieldE_line 35 (by decide)]; rfl
  have hke : kindE (35, kind) = (kind, 0) := by unfold kindE; rw [if_pos ⟨rfl, hk⟩]
  have hcut : ((bodyB kind l).drop 0).take (0 + s.length - 0) = s := by
    rw [e, List.drop_zero, Nat.zero_add, Nat.sub_zero, List.take_left' rfl]
  have ih := bodyR_fields (bodyB kind l) kind l [] (s ++ [1]) (by rw [e]; simp) (by simp) hf (by simpa using hl)
  conv => lhs; arg 2; rw [e]
  rw [bodyR_by _ _ _ _ _ _ _ h1]
  simp only [bodyR]
  rw [hcut, hfe, if_neg (by simp), if_neg (by simp), if_pos trivial, hke, if_neg (by simp)]
  simp only [List.length_append, List.length_cons, List.length_nil, Nat.zero_add, List.nil_append] at ih ⊢
  exact ih
/-- what is encoded is decoded, whatever stands behind it. -/
theorem decR_line (kind : List UInt8) (l : List (Int × List UInt8)) (r : List UInt8) (h : encE kind l = 0) : decR (lineB kind l ++ r) = (kind, l, (lineB kind l).length, 0) := by
  unfold encE at h
  split at h
  · cases h
  · rename_i hk
    split at h
    · cases h
    · rename_i hl
      split at h
      · rename_i hf
        split at h
        · cases h
        · rename_i h2
          have hA : (aheadB kind l).length = 10 + (decDigits (bodyB kind l).length).length + 1 + (bodyB kind l).length := by rw [aheadB_len, decDigits_length]
          have hL : (lineB kind l).length = (aheadB kind l).length + 7 := by unfold lineB; rw [List.length_append, trailB_len]
          have hb : ((lineB kind l ++ r).drop (10 + (decDigits (bodyB kind l).length).length + 1)).take ((aheadB kind l).length - (10 + (decDigits (bodyB kind l).length).length + 1)) = bodyB kind l := by
            have e1 : lineB kind l ++ r = (headB (bodyB kind l).length ++ [1]) ++ (bodyB kind l ++ (trailB (aheadB kind l) ++ r)) := by
              unfold lineB
              conv => lhs; arg 1; arg 1; unfold aheadB
              simp
            rw [e1, List.drop_left' (by simp [headB]; omega), List.take_left' (by omega)]
          unfold decR
          rw [outE_line kind l r (by omega)]
          simp only
          rw [hb, bodyR_line kind l (by simpa using hk) (by omega) hf, if_neg (by simp), if_neg (by simp), hL]
      · rename_i hf; exact absurd h hf
end Go.Proofs.YtacdjioieclggaaDoor
namespace Go.Proofs.YtacdjioieclggaaDoor
open Go.RowKit Go.Deep Go.Lib Go.Shelf Go.Sort
set_option linter.unusedVariables false
theorem outE_trail {l : List UInt8} {f t p : Nat} (h : outE l = ((f, t), p, 0)) : (l.drop t).take 7 = trailB (l.take t) := by
  unfold outE at h
  split at h
  · rename_i hn; simp only [Prod.mk.injEq] at h; exact absurd h.2.2 hn
  · split at h
    · rename_i hn; simp only [Prod.mk.injEq] at h; exact absurd h.2.2 hn
    · split at h
      · simp at h
      · split at h
        · simp at h
        · split at h
          · simp at h
          · rename_i hT
            simp only [Prod.mk.injEq] at h
            rw [h.1] at hT
            simpa using hT
end Go.Proofs.YtacdjioieclggaaDoor
namespace Go.Proofs.YtacdjioieclggaaDoor
open Go.RowKit Go.Deep Go.Lib Go.Shelf Go.Sort
set_option linter.unusedVariables false
theorem fieldE_inv {s : List UInt8} {x : Int × List UInt8} (h : fieldE s = (x, true)) : s = decDigits x.1.toNat ++ 61 :: x.2 := by
  unfold fieldE at h
  split at h
  · cases h
  · rename_i hc
    simp only [Prod.mk.injEq] at h
    obtain ⟨hx, hn⟩ := h
    obtain ⟨k, hk⟩ := Option.isSome_iff_exists.1 hn
    rw [hk] at hx
    obtain ⟨hd, _⟩ := num_some _ _ hk
    rw [← hx]
    simp only [Option.getD_some, Int.toNat_natCast]
    rw [hd]
    unfold Lib.cut at hc ⊢
    split
    · rcases Lib.index_spec s [61] with ⟨hm, _⟩ | ⟨i, hi, hl, ho, _⟩
      · rename_i h0; omega
      · rw [hi]
        simp only [Int.toNat_natCast, List.length_cons, List.length_nil, Nat.zero_add]
        unfold Lib.occAt at ho
        obtain ⟨z, hz⟩ := List.isPrefixOf_iff_prefix.1 ho
        have e1 : s.drop (i + 1) = z := by rw [← List.drop_drop, ← hz]; simp
        rw [e1]
        conv => lhs; rw [← List.take_append_drop i s, ← hz]
        simp
    · rename_i h0
      rw [if_neg h0] at hc
      simp at hc
/-- the fields behind the first one, turned back. -/
theorem bodyR_back (body kind : List UInt8) : ∀ (r cur pre : List UInt8) (a : List (Int × List UInt8)) (K : List UInt8) (L : List (Int × List UInt8)) (p : Nat), body = pre ++ (cur ++ r) → 0 < pre.length → (1 : UInt8) ∉ cur → (cur ++ r = [] ∨ (cur ++ r).getLast? = some 1) → a.length ≤ 64 → bodyR body r (pre.length + cur.length) pre.length kind a = (K, L, p, 0) →
    K = kind ∧ ∃ m, L = a ++ m ∧ cur ++ r = m.flatMap fieldB ∧ firstE a m = 0 ∧ a.length + m.length ≤ 64
  | [], cur, pre, a, K, L, p, hb, hp, h1, hlast, ha, h => by
    have hc : cur = [] := by
      rcases hlast with h | h
      · simpa using h
      · simp only [List.append_nil] at h
        exact absurd (List.mem_of_getLast? h) h1
    subst hc
    simp only [bodyR, Prod.mk.injEq] at h
    obtain ⟨rfl, rfl, _⟩ := h
    exact ⟨rfl, [], by simp, by simp, rfl, by simpa using ha⟩
  | c :: r, cur, pre, a, K, L, p, hb, hp, h1, hlast, ha, h => by
    simp only [bodyR] at h
    by_cases hc : c = 1
    · subst hc
      have hcut : (body.drop pre.length).take (pre.length + cur.length - pre.length) = cur := by
        rw [hb, List.drop_left' rfl, show pre.length + cur.length - pre.length = cur.length by omega, List.take_left' rfl]
      rw [if_neg (by simp), hcut] at h
      obtain ⟨x, ok, hf⟩ : ∃ x ok, fieldE cur = (x, ok) := ⟨_, _, rfl⟩
      rw [hf] at h
      simp only at h
      split at h
      · simp at h
      · rename_i hok
        have hok' : ok = true := by simpa using hok
        subst hok'
        rw [if_neg (by omega)] at h
        split at h
        · simp at h
        · rename_i h64
          split at h
          · rename_i hft
            simp only [Prod.mk.injEq] at h
            exact absurd h.2.2.2 hft
          · rename_i hft
            have hft' : fitsE a x = 0 := by simpa using hft
            have e : pre.length + cur.length + 1 = (pre ++ cur ++ [1]).length := by simp; omega
            have hl2 : ([] : List UInt8) ++ r = [] ∨ (([] : List UInt8) ++ r).getLast? = some 1 := by
              cases r with
              | nil => exact Or.inl rfl
              | cons d r =>
                refine Or.inr ?_
                rcases hlast with h | h
                · simp at h
                · simpa [List.getLast?_append] using h
            rw [e] at h
            obtain ⟨hK, m, hL, hm, hf2, hl3⟩ := bodyR_back body kind r [] (pre ++ cur ++ [1]) (a ++ [x]) K L p (by rw [hb]; simp) (by simp; omega) (by simp) hl2 (by simp; omega) (by simpa using h)
            refine ⟨hK, x :: m, by rw [hL]; simp, ?_, ?_, by simp at hl3 ⊢; omega⟩
            · rw [fieldE_inv hf, List.flatMap_cons, ← hm]
              simp [fieldB]
            · unfold firstE
              rw [if_pos hft', hf2]
    · rw [if_pos hc] at h
      obtain ⟨hK, m, hL, hm, hf2, hl3⟩ := bodyR_back body kind r (cur ++ [c]) pre a K L p (by rw [hb]; simp) hp (by simp; exact ⟨h1, fun e => hc e.symm⟩) (by simpa using hlast) ha (by rw [List.length_append, List.length_cons, List.length_nil, Nat.zero_add, ← Nat.add_assoc]; exact h)
      exact ⟨hK, m, hL, by rw [← hm]; simp, hf2, hl3⟩
end Go.Proofs.YtacdjioieclggaaDoor
