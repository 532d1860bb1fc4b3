/-
  text.outline.
-/
import Derived.Test.YtolabllgnfpfaaaDoorTyC
import Derived.Deep.RegionWith
namespace Go.Proofs.YtolabllgnfpfaaaDoor
open Go.RowKit Go.Deep Go.Lib Go.Shelf Go.Sort
set_option linter.unusedVariables false

theorem begE_ok (b : List UInt8) : ∀ (k i : Nat), (begE b i k).2 = 0 → i ≤ b.length → i + k ≤ b.length ∧ ∀ j, j < k → b[i + j]? = beg[i + j]?
  | 0, i, _, h => ⟨by omega, fun j hj => by omega⟩
  | k + 1, i, he, h => by
    simp only [begE] at he
    split at he
    · cases he
    · rename_i c hc
      obtain ⟨hlt, _⟩ := List.getElem?_eq_some_iff.1 hc
      split at he
      · rename_i hcb
        obtain ⟨h1, h2⟩ := begE_ok b k (i + 1) he (by omega)
        refine ⟨by omega, fun j hj => ?_⟩
        cases j with
        | zero => rw [Nat.add_zero, hc, hcb]
        | succ j => have := h2 j (by omega); rwa [show i + 1 + j = i + (j + 1) by omega] at this
      · cases he
theorem begE_fst (b : List UInt8) : ∀ (k i : Nat), (begE b i k).2 = 0 → (begE b i k).1 = 0
  | 0, i, _ => rfl
  | k + 1, i, he => by
    simp only [begE] at he ⊢
    split at he
    · cases he
    · split at he
      · rename_i c hc hcb
        rw [if_pos hcb]
        exact begE_fst b k (i + 1) he
      · cases he
theorem lenE_ok {l : List UInt8} {f t p : Nat} (h : lenE l = ((f, t), p, 0)) (h10 : 10 ≤ l.length) : p = 0 ∧ 11 ≤ f ∧ f ≤ t ∧ t + 7 ≤ 2048 ∧ f ≤ l.length := by
  have hd := digN_le (l.drop 10) 5 0 (by omega)
  rw [List.length_drop] at hd
  unfold lenE at h
  split at h
  · simp at h
  · split at h
    · simp at h
    · split at h
      · simp at h
      · split at h
        · simp at h
        · simp only [Prod.mk.injEq] at h
          obtain ⟨⟨rfl, rfl⟩, rfl, _⟩ := h
          omega
/-- the body of the line with which bytes begin; with an error its place. -/
noncomputable def outE (l : List UInt8) : (Nat × Nat) × Nat × Int :=
  if (begE l 0 10).2 ≠ 0 then ((0, 0), (begE l 0 10).1, (begE l 0 10).2)
  else if (lenE l).2.2 ≠ 0 then ((0, 0), (lenE l).2.1, (lenE l).2.2)
  else if l.length < (lenE l).1.2 + 7 then ((0, 0), l.length, 20)
  else if ¬ TrailOk ((l.drop (lenE l).1.2).take 7) ∨ (lenE l).1.1 = (lenE l).1.2 ∨ l[(lenE l).1.2 - 1]? ≠ some 1 then ((0, 0), (lenE l).1.2, 32)
  else if (l.drop (lenE l).1.2).take 7 ≠ trailB (l.take (lenE l).1.2) then ((0, 0), (lenE l).1.2, 33)
  else ((lenE l).1, 0, 0)

set_option maxHeartbeats 2000000 in
set_option maxRecDepth 100000 in
theorem outline_beg (l : List UInt8) (q : Option Addr) (cap : Nat) (w : World) (hl : l.length < 4611686018427387904) (hS : Sb w q l) (h : (begE l 0 10).2 ≠ 0) :
    Calls Tryd.prog 17 #[.slice q l.length cap] w fun e w' => e = .returned (lenV (outE l)) ∧ Below w.heap.size w w' := by
  have hE : outE l = ((0, 0), (begE l 0 10).1, (begE l 0 10).2) := by unfold outE; rw [if_pos h]
  rw [hE]
  have A0 := hid (ball w (.cells #[.int .i64 0, .int .i64 0] 53))
  have BG := hid (beginning_any l q cap _ (by omega) (hS.on A0.out))
  obtain ⟨p, e, he⟩ : ∃ p e, begE l 0 10 = (p, e) := ⟨_, _, rfl⟩
  rw [he] at BG h ⊢
  simp only at BG h ⊢
  have hne : (e != 0) = true := by simpa using h
  clear hE he h hS
  go_enter Tryd.func17, Tryd.ntmps17
  go_wp2_with (go_at_call 29; refine BG.out.mono ?_; rintro e w1 ⟨rfl, hb⟩; have HB1 := hid (btr' A0.out hb); have q0 := cell_new 0 hb rfl; have q1 := cell_new 1 hb rfl; have r0 : w1.frozen? ⟨w.heap.size, 0, none⟩ = false := (hb.frozen (by simp)).trans (World.frozen?_alloc_new _ _ _ _); have r1 : w1.frozen? ⟨w.heap.size, 1, none⟩ = false := (hb.frozen (by simp)).trans (World.frozen?_alloc_new _ _ _ _); clear hb)
  refine bodyPost_ret (res62 Tryd.f17 2 3 4 Tryd.results17 _ _ w.heap.size (.int .i64 0) (.int .i64 0) _ _ (by rfl) (by rfl) (by rfl) ?c0 ?c1) rfl ⟨rfl, ?bel⟩
  case c0 => exact (set2 q0 q1).1
  case c1 => exact (set2 q0 q1).2
  case bel =>
    repeat (first | exact HB1.out | apply Below.setCell)
    all_goals simp

set_option maxHeartbeats 2000000 in
set_option maxRecDepth 100000 in
theorem outline_len (l : List UInt8) (b o : Nat) (cap : Nat) (w : World) (hl : l.length < 4611686018427387904) (h10 : 10 ≤ l.length) (hcap : l.length ≤ cap) (hcm : cap < 9223372036854775808) (hS : Sb w (some ⟨b, o, none⟩) l) (hL : LayE w) (h0 : (begE l 0 10).2 = 0) (h1 : (begE l 0 10).1 = 0) (h : (lenE l).2.2 ≠ 0) :
    Calls Tryd.prog 17 #[.slice (some ⟨b, o, none⟩) l.length cap] w fun e w' => e = .returned (lenV (outE l)) ∧ Below w.heap.size w w' := by
  have hE : outE l = ((0, 0), (lenE l).2.1, (lenE l).2.2) := by unfold outE; rw [if_neg (by simpa using h0), if_pos h]
  rw [hE]
  have A0 := hid (ball w (.cells #[.int .i64 0, .int .i64 0] 53))
  have BG := hid (beginning_any l (some ⟨b, o, none⟩) cap _ (by omega) (hS.on A0.out))
  have HS := hid hS
  have HL := hid hL
  have LN := hid (fun w' hS hL => length_any l b o cap w' hl h10 hcap hcm hS hL)
  rw [h0, h1] at BG
  obtain ⟨f, t, p, e, he⟩ : ∃ f t p e, lenE l = ((f, t), p, e) := ⟨_, _, _, _, rfl⟩
  rw [he] at LN h ⊢
  simp only [lenV] at LN h ⊢
  have hne : (e != 0) = true := by simpa using h
  clear hE he h hS hL h0 h1
  go_enter Tryd.func17, Tryd.ntmps17
  go_wp2_with (first | (go_at_call 29; refine BG.out.mono ?_; rintro e w1 ⟨rfl, hb⟩; have HB1 := hid (btr' A0.out hb); have q10 := cell_new 0 hb rfl; have q11 := cell_new 1 hb rfl; have r10 : w1.frozen? ⟨w.heap.size, 0, none⟩ = false := (hb.frozen (by simp)).trans (World.frozen?_alloc_new _ _ _ _); have r11 : w1.frozen? ⟨w.heap.size, 1, none⟩ = false := (hb.frozen (by simp)).trans (World.frozen?_alloc_new _ _ _ _); clear hb) | (go_at_call 30; refine (LN.out _ (HS.out.on HB1.out) (HL.out.on HB1.out)).mono ?_; rintro e w2 ⟨rfl, hb⟩; have HB2 := hid (btr' HB1.out hb); have q20 := (hb.cell (cell_lt q10)).trans q10; have q21 := (hb.cell (cell_lt q11)).trans q11; have r20 := (hb.frozen (cell_lt q10)).trans r10; have r21 := (hb.frozen (cell_lt q11)).trans r11; have hbx := ball w2 (.cells #[.int .i64 (f : Int), .int .i64 (t : Int)] 53); have qa0 := (hbx.cell (cell_lt q20)).trans q20; have qa1 := (hbx.cell (cell_lt q21)).trans q21; have ra0 := (hbx.frozen (cell_lt q20)).trans r20; have ra1 := (hbx.frozen (cell_lt q21)).trans r21; have HBX := hid (btr' HB2.out hbx); clear hb hbx))
  refine bodyPost_ret (res62 Tryd.f17 2 3 4 Tryd.results17 _ _ w.heap.size (.int .i64 0) (.int .i64 0) _ _ (by rfl) (by rfl) (by rfl) ?c0 ?c1) rfl ⟨rfl, ?bel⟩
  case c0 => exact (set2 qa0 qa1).1
  case c1 => exact (set2 qa0 qa1).2
  case bel =>
    repeat (first | exact HBX.out | apply Below.setCell)
    all_goals simp

set_option maxHeartbeats 2000000 in
set_option maxRecDepth 100000 in
theorem outline_short (l : List UInt8) (b o : Nat) (cap : Nat) (w : World) (hl : l.length < 4611686018427387904) (h10 : 10 ≤ l.length) (hcap : l.length ≤ cap) (hcm : cap < 9223372036854775808) (hS : Sb w (some ⟨b, o, none⟩) l) (hL : LayE w) (h0 : (begE l 0 10).2 = 0) (h1 : (begE l 0 10).1 = 0) (h : (lenE l).2.2 = 0) (hsh : l.length < (lenE l).1.2 + 7) :
    Calls Tryd.prog 17 #[.slice (some ⟨b, o, none⟩) l.length cap] w fun e w' => e = .returned (lenV (outE l)) ∧ Below w.heap.size w w' := by
  have hE : outE l = ((0, 0), l.length, 20) := by unfold outE; rw [if_neg (by simpa using h0), if_neg (by simpa using h), if_pos hsh]
  rw [hE]
  have A0 := hid (ball w (.cells #[.int .i64 0, .int .i64 0] 53))
  have BG := hid (beginning_any l (some ⟨b, o, none⟩) cap _ (by omega) (hS.on A0.out))
  have HS := hid hS
  have HL := hid hL
  have LN := hid (fun w' hS hL => length_any l b o cap w' hl h10 hcap hcm hS hL)
  rw [h0, h1] at BG
  obtain ⟨f, t, p, e, he⟩ : ∃ f t p e, lenE l = ((f, t), p, e) := ⟨_, _, _, _, rfl⟩
  rw [he] at LN h hsh
  simp only at h hsh
  subst h
  obtain ⟨rfl, hf, hft, ht, hfl⟩ := lenE_ok he h10
  simp only [lenV] at LN ⊢
  have EN := hid (fun w' => end_any f t w' (by omega))
  have hs2 : (l.length : Int) < (t : Int) + 7 := by omega
  clear hE he hS hL h0 h1
  go_enter Tryd.func17, Tryd.ntmps17
  go_wp2_with (first | (go_at_call 29; refine BG.out.mono ?_; rintro e w1 ⟨rfl, hb⟩; have HB1 := hid (btr' A0.out hb); have q10 := cell_new 0 hb rfl; have q11 := cell_new 1 hb rfl; have r10 : w1.frozen? ⟨w.heap.size, 0, none⟩ = false := (hb.frozen (by simp)).trans (World.frozen?_alloc_new _ _ _ _); have r11 : w1.frozen? ⟨w.heap.size, 1, none⟩ = false := (hb.frozen (by simp)).trans (World.frozen?_alloc_new _ _ _ _); clear hb) | (go_at_call 30; refine (LN.out _ (HS.out.on HB1.out) (HL.out.on HB1.out)).mono ?_; rintro e w2 ⟨rfl, hb⟩; have HB2 := hid (btr' HB1.out hb); have q20 := (hb.cell (cell_lt q10)).trans q10; have q21 := (hb.cell (cell_lt q11)).trans q11; have r20 := (hb.frozen (cell_lt q10)).trans r10; have r21 := (hb.frozen (cell_lt q11)).trans r11; clear hb) | (go_at_call 21; refine (EN.out _).mono ?_; rintro e w3 ⟨rfl, hb⟩; have hb' := btr' (ball w2 _) hb; have HB3 := hid (btr' HB2.out hb'); have q30 := (hb'.cell (cell_lt q20)).trans q20; have q31 := (hb'.cell (cell_lt q21)).trans q21; have r30 := (hb'.frozen (cell_lt q20)).trans r20; have r31 := (hb'.frozen (cell_lt q21)).trans r21; have b30 := cell_new 0 hb rfl; have b31 := cell_new 1 hb rfl; clear hb hb'))
  refine bodyPost_ret (res62 Tryd.f17 2 3 4 Tryd.results17 _ _ w.heap.size (.int .i64 0) (.int .i64 0) _ _ (by rfl) (by rfl) (by rfl) ?c0 ?c1) rfl ⟨rfl, ?bel⟩
  case c0 => exact (set2 q30 q31).1
  case c1 => exact (set2 q30 q31).2
  case bel =>
    repeat (first | exact HB3.out | apply Below.setCell)
    all_goals simp

set_option maxHeartbeats 4000000 in
set_option maxRecDepth 100000 in
theorem outline_rest (l : List UInt8) (b o : Nat) (cap : Nat) (w : World) (hl : l.length < 4611686018427387904) (h10 : 10 ≤ l.length) (hcap : l.length ≤ cap) (hcm : cap < 9223372036854775808) (hS : Sb w (some ⟨b, o, none⟩) l) (hL : LayE w) (h0 : (begE l 0 10).2 = 0) (h1 : (begE l 0 10).1 = 0) (h : (lenE l).2.2 = 0) (hsh : ¬ l.length < (lenE l).1.2 + 7) :
    Calls Tryd.prog 17 #[.slice (some ⟨b, o, none⟩) l.length cap] w fun e w' => e = .returned (lenV (outE l)) ∧ Below w.heap.size w w' := by
  have A0 := hid (ball w (.cells #[.int .i64 0, .int .i64 0] 53))
  have BG := hid (beginning_any l (some ⟨b, o, none⟩) cap _ (by omega) (hS.on A0.out))
  have HS := hid hS
  have HL := hid hL
  have LN := hid (fun w' hS hL => length_any l b o cap w' hl h10 hcap hcm hS hL)
  rw [h0, h1] at BG
  obtain ⟨R, hR⟩ : ∃ R, outE l = R := ⟨_, rfl⟩
  rw [hR]
  have HO := hid hR
  unfold outE at HO
  obtain ⟨f, t, p, e, he⟩ : ∃ f t p e, lenE l = ((f, t), p, e) := ⟨_, _, _, _, rfl⟩
  rw [he] at LN h hsh
  simp only at h hsh
  subst h
  obtain ⟨rfl, hf, hft, ht, hfl⟩ := lenE_ok he h10
  simp only [lenV] at LN
  have EN := hid (fun w' => end_any f t w' (by omega))
  have hs2 : ¬ ((l.length : Int) < (t : Int) + 7) := by omega
  have i0 : (0 : Int) ≤ (t : Int) := by omega
  have i1 : (t : Int) ≤ (t : Int) + 7 := by omega
  have i2 : (t : Int) + 7 ≤ (cap : Int) := by omega
  have i3 : ¬ cap = t := by omega
  rw [if_neg (by simpa using h0), he] at HO
  rw [if_neg (by simp), if_neg hsh] at HO
  simp only at HO
  have hTk : ((l.drop t).take 7).length = 7 := by simp; omega
  have IT := hid (fun w' => istrail_any ((l.drop t).take 7) w' hTk)
  have TA := hid (fun w' hS hL => trail_any (l.take t) (some ⟨b, o, none⟩) cap w' (by simp; omega) hS hL)
  rw [show (l.take t).length = t by simp; omega] at TA
  have hlast : l[t - 1]? = some (l[t - 1]'(by omega)) := List.getElem?_eq_getElem (by omega)
  obtain ⟨c, hc⟩ : ∃ c, l[t - 1]'(by omega) = c := ⟨_, rfl⟩
  have CL := hid (fun w' (hS : Sb w' (some ⟨b, o, none⟩) l) => hS.at (t - 1) (by omega))
  rw [hc] at hlast CL
  rw [hlast] at HO
  have CVT := hid (fun (w' : World) (hS : Sb w' (some ⟨b, o, none⟩) l) => conv_sb ((hS.drop t).take 7) (cap - t))
  rw [hTk] at CVT
  obtain ⟨TK, hTK⟩ : ∃ x, (l.drop t).take 7 = x := ⟨_, rfl⟩
  rw [hTK] at HO IT CVT
  obtain ⟨TB, hTB⟩ : ∃ x, trailB (l.take t) = x := ⟨_, rfl⟩
  rw [hTB] at HO TA
  have k0 : (0 : Int) ≤ (t : Int) - 1 := by omega
  have k1 : (t : Int) - 1 < (l.length : Int) := by omega
  have k2 : (t : Int) ≤ (cap : Int) := by omega
  have k3 : ((t : Int) - 1).toNat = t - 1 := by omega
  have h7n : ((t : Int) + 7).toNat - t = 7 := by omega
  clear he hS hL h0 h1 hR hTk hlast hc hTK hTB
  go_enter Tryd.func17, Tryd.ntmps17
  go_wp2_with (first | (go_at_call 29; refine BG.out.mono ?_; rintro e w1 ⟨rfl, hb⟩; have HB1 := hid (btr' A0.out hb); have q10 := cell_new 0 hb rfl; have q11 := cell_new 1 hb rfl; have r10 : w1.frozen? ⟨w.heap.size, 0, none⟩ = false := (hb.frozen (by simp)).trans (World.frozen?_alloc_new _ _ _ _); have r11 : w1.frozen? ⟨w.heap.size, 1, none⟩ = false := (hb.frozen (by simp)).trans (World.frozen?_alloc_new _ _ _ _); clear hb) | (go_at_call 30; refine (LN.out _ (HS.out.on HB1.out) (HL.out.on HB1.out)).mono ?_; rintro e w2 ⟨rfl, hb⟩; have HB2 := hid (btr' HB1.out hb); have q20 := (hb.cell (cell_lt q10)).trans q10; have q21 := (hb.cell (cell_lt q11)).trans q11; have r20 := (hb.frozen (cell_lt q10)).trans r10; have r21 := (hb.frozen (cell_lt q11)).trans r11; have hnA : ¬ w2.heap.size = w.heap.size := Nat.ne_of_gt (cell_lt q20); have hnB : ¬ w.heap.size = w2.heap.size := Nat.ne_of_lt (cell_lt q20); clear hb) | (go_at_call 21; refine (EN.out _).mono ?_; rintro e w3 ⟨rfl, hb⟩; have hb' := btr' (ball w2 _) hb; have HB3 := hid (btr' HB2.out hb'); have q30 := (hb'.cell (cell_lt q20)).trans q20; have q31 := (hb'.cell (cell_lt q21)).trans q21; have r30 := (hb'.frozen (cell_lt q20)).trans r20; have r31 := (hb'.frozen (cell_lt q21)).trans r21; have b30 := cell_new 0 hb rfl; have b31 := cell_new 1 hb rfl; clear hb hb'))
  go_region_with (first | (go_at_call 21; refine (EN.out _).mono ?_; rintro e w4 ⟨rfl, hb⟩; have hb3 : Below w3.heap.size w3 w4 := ⟨hb.os, hb.tape, hb.output, hb.size, hb.block⟩; have HB4 := hid (btr' HB3.out hb3); have q40 := (hb3.cell (cell_lt q30)).trans q30; have q41 := (hb3.cell (cell_lt q31)).trans q31; have r40 := (hb3.frozen (cell_lt q30)).trans r30; have r41 := (hb3.frozen (cell_lt q31)).trans r31; have b40 := (hb3.cell (cell_lt b30)).trans b30; have b41 := (hb3.cell (cell_lt b31)).trans b31; have cv4 := CVT.out w4 (HS.out.on HB4.out); clear hb hb3))
  all_goals
    by_cases c1 : TrailOk TK
    · rw [decide_eq_true c1] at IT
      by_cases c2 : f = t
      · rw [if_pos (Or.inr (Or.inl c2))] at HO
        obtain rfl := HO.out
        have m2 : ((f : Int) == (t : Int)) = true := by simp; omega
        clear HO c1 c2
        go_wp2_with (first | (go_at_call 31; refine (IT.out _).mono ?_; rintro e w5 ⟨rfl, hb⟩; have HB5 := hid (btr' HB4.out hb); have q50 := (hb.cell (cell_lt q40)).trans q40; have q51 := (hb.cell (cell_lt q41)).trans q41; have r50 := (hb.frozen (cell_lt q40)).trans r40; have r51 := (hb.frozen (cell_lt q41)).trans r41; have b50 := (hb.cell (cell_lt b40)).trans b40; have b51 := (hb.cell (cell_lt b41)).trans b41; have c5 := CL.out w5 (HS.out.on HB5.out); clear hb))
        go_region
        all_goals
          go_wp2
          refine bodyPost_ret (res62 Tryd.f17 2 3 4 Tryd.results17 _ _ w.heap.size (.int .i64 0) (.int .i64 0) _ _ (by rfl) (by rfl) (by rfl) ?c0 ?c1) rfl ⟨rfl, ?bel⟩
          case c0 => first | exact (set2 q50 q51).1 | exact (set2 (w := w5.drew) q50 q51).1
          case c1 => first | exact (set2 q50 q51).2 | exact (set2 (w := w5.drew) q50 q51).2
          case bel =>
            repeat (first | exact HB5.out | exact HB5.out.drew | apply Below.drew | apply Below.setCell)
            all_goals simp
      · have m2 : ((f : Int) == (t : Int)) = false := by simp; omega
        by_cases c3 : c = 1
        · rw [if_neg (by rintro (h | h | h); exact h c1; exact c2 h; exact h (by rw [c3]))] at HO
          subst c3
          by_cases c4 : TK = TB
          · rw [if_neg (by simpa using c4)] at HO
            obtain rfl := HO.out
            subst c4
            clear HO c1 c2
            go_wp2_with (first | (go_at_call 31; refine (IT.out _).mono ?_; rintro e w5 ⟨rfl, hb⟩; have HB5 := hid (btr' HB4.out hb); have q50 := (hb.cell (cell_lt q40)).trans q40; have q51 := (hb.cell (cell_lt q41)).trans q41; have r50 := (hb.frozen (cell_lt q40)).trans r40; have r51 := (hb.frozen (cell_lt q41)).trans r41; have b50 := (hb.cell (cell_lt b40)).trans b40; have b51 := (hb.cell (cell_lt b41)).trans b41; have c5 := CL.out w5 (HS.out.on HB5.out); clear hb) | (go_at_call 28; refine (TA.out _ ((HS.out.on HB5.out).take t) (HL.out.on HB5.out).lay).mono ?_; rintro e w6 ⟨rfl, hb⟩; have HB6 := hid (btr' HB5.out hb); have q60 := (hb.cell (cell_lt q50)).trans q50; have q61 := (hb.cell (cell_lt q51)).trans q51; have r60 := (hb.frozen (cell_lt q50)).trans r50; have r61 := (hb.frozen (cell_lt q51)).trans r51; have b60 := (hb.cell (cell_lt b50)).trans b50; have b61 := (hb.cell (cell_lt b51)).trans b51; clear hb))
            refine bodyPost_ret (res62 Tryd.f17 2 3 4 Tryd.results17 _ _ w.heap.size (.int .i64 (f : Int)) (.int .i64 (t : Int)) _ _ (by rfl) (by rfl) (by rfl) ?c0 ?c1) rfl ⟨rfl, ?bel⟩
            case c0 => first | exact (set2 q60 q61).1 | exact (set2 (w := w6.drew) q60 q61).1
            case c1 => first | exact (set2 q60 q61).2 | exact (set2 (w := w6.drew) q60 q61).2
            case bel =>
              repeat (first | exact HB6.out | exact HB6.out.drew | apply Below.drew | apply Below.setCell)
              all_goals simp
          · rw [if_pos c4] at HO
            obtain rfl := HO.out
            have m4 : (TK == TB) = false := by simpa using c4
            clear HO c1 c2 c4
            go_wp2_with (first | (go_at_call 31; refine (IT.out _).mono ?_; rintro e w5 ⟨rfl, hb⟩; have HB5 := hid (btr' HB4.out hb); have q50 := (hb.cell (cell_lt q40)).trans q40; have q51 := (hb.cell (cell_lt q41)).trans q41; have r50 := (hb.frozen (cell_lt q40)).trans r40; have r51 := (hb.frozen (cell_lt q41)).trans r41; have b50 := (hb.cell (cell_lt b40)).trans b40; have b51 := (hb.cell (cell_lt b41)).trans b41; have c5 := CL.out w5 (HS.out.on HB5.out); clear hb) | (go_at_call 28; refine (TA.out _ ((HS.out.on HB5.out).take t) (HL.out.on HB5.out).lay).mono ?_; rintro e w6 ⟨rfl, hb⟩; have HB6 := hid (btr' HB5.out hb); have q60 := (hb.cell (cell_lt q50)).trans q50; have q61 := (hb.cell (cell_lt q51)).trans q51; have r60 := (hb.frozen (cell_lt q50)).trans r50; have r61 := (hb.frozen (cell_lt q51)).trans r51; have b60 := (hb.cell (cell_lt b50)).trans b50; have b61 := (hb.cell (cell_lt b51)).trans b51; clear hb))
            go_region
            all_goals
              go_wp2
              refine bodyPost_ret (res62 Tryd.f17 2 3 4 Tryd.results17 _ _ w.heap.size (.int .i64 0) (.int .i64 0) _ _ (by rfl) (by rfl) (by rfl) ?c0 ?c1) rfl ⟨rfl, ?bel⟩
              case c0 => first | exact (set2 q60 q61).1 | exact (set2 (w := w6.drew) q60 q61).1
              case c1 => first | exact (set2 q60 q61).2 | exact (set2 (w := w6.drew) q60 q61).2
              case bel =>
                repeat (first | exact HB6.out | exact HB6.out.drew | apply Below.drew | apply Below.setCell)
                all_goals simp
        · rw [if_pos (Or.inr (Or.inr (by simpa using c3)))] at HO
          obtain rfl := HO.out
          have m3 : ((c.toNat : Int) != 1) = true := by
            simp
            intro e
            have e2 : c.toNat = 1 := by omega
            exact c3 (UInt8.toNat_inj.1 (by simpa using e2))
          clear HO c1 c2 c3
          go_wp2_with (first | (go_at_call 31; refine (IT.out _).mono ?_; rintro e w5 ⟨rfl, hb⟩; have HB5 := hid (btr' HB4.out hb); have q50 := (hb.cell (cell_lt q40)).trans q40; have q51 := (hb.cell (cell_lt q41)).trans q41; have r50 := (hb.frozen (cell_lt q40)).trans r40; have r51 := (hb.frozen (cell_lt q41)).trans r41; have b50 := (hb.cell (cell_lt b40)).trans b40; have b51 := (hb.cell (cell_lt b41)).trans b41; have c5 := CL.out w5 (HS.out.on HB5.out); clear hb))
          go_region
          all_goals
            go_wp2
            refine bodyPost_ret (res62 Tryd.f17 2 3 4 Tryd.results17 _ _ w.heap.size (.int .i64 0) (.int .i64 0) _ _ (by rfl) (by rfl) (by rfl) ?c0 ?c1) rfl ⟨rfl, ?bel⟩
            case c0 => first | exact (set2 q50 q51).1 | exact (set2 (w := w5.drew) q50 q51).1
            case c1 => first | exact (set2 q50 q51).2 | exact (set2 (w := w5.drew) q50 q51).2
            case bel =>
              repeat (first | exact HB5.out | exact HB5.out.drew | apply Below.drew | apply Below.setCell)
              all_goals simp
    · rw [decide_eq_false c1] at IT
      rw [if_pos (Or.inl c1)] at HO
      obtain rfl := HO.out
      clear HO c1
      go_wp2_with (first | (go_at_call 31; refine (IT.out _).mono ?_; rintro e w5 ⟨rfl, hb⟩; have HB5 := hid (btr' HB4.out hb); have q50 := (hb.cell (cell_lt q40)).trans q40; have q51 := (hb.cell (cell_lt q41)).trans q41; have r50 := (hb.frozen (cell_lt q40)).trans r40; have r51 := (hb.frozen (cell_lt q41)).trans r41; have b50 := (hb.cell (cell_lt b40)).trans b40; have b51 := (hb.cell (cell_lt b41)).trans b41; have c5 := CL.out w5 (HS.out.on HB5.out); clear hb))
      go_region
      all_goals
        go_wp2
        refine bodyPost_ret (res62 Tryd.f17 2 3 4 Tryd.results17 _ _ w.heap.size (.int .i64 0) (.int .i64 0) _ _ (by rfl) (by rfl) (by rfl) ?c0 ?c1) rfl ⟨rfl, ?bel⟩
        case c0 => first | exact (set2 q50 q51).1 | exact (set2 (w := w5.drew) q50 q51).1
        case c1 => first | exact (set2 q50 q51).2 | exact (set2 (w := w5.drew) q50 q51).2
        case bel =>
          repeat (first | exact HB5.out | exact HB5.out.drew | apply Below.drew | apply Below.setCell)
          all_goals simp

/-- text.outline. -/
theorem outline_any (l : List UInt8) (q : Option Addr) (cap : Nat) (w : World) (hl : l.length < 4611686018427387904) (hcap : l.length ≤ cap) (hcm : cap < 9223372036854775808) (hS : Sb w q l) (hL : LayE w) :
    Calls Tryd.prog 17 #[.slice q l.length cap] w fun e w' => e = .returned (lenV (outE l)) ∧ Below w.heap.size w w' := by
  by_cases h : (begE l 0 10).2 = 0
  · obtain ⟨h10, _⟩ := begE_ok l 10 0 h (Nat.zero_le _)
    obtain ⟨b, o, rfl, _⟩ := hS 0 (by omega)
    have h1 := begE_fst l 10 0 h
    by_cases h2 : (lenE l).2.2 = 0
    · by_cases h3 : l.length < (lenE l).1.2 + 7
      · exact outline_short l b o cap w hl (by omega) hcap hcm hS hL h h1 h2 h3
      · exact outline_rest l b o cap w hl (by omega) hcap hcm hS hL h h1 h2 h3
    · exact outline_len l b o cap w hl (by omega) hcap hcm hS hL h h1 h2
  · exact outline_beg l q cap w hl hS h
end Go.Proofs.YtolabllgnfpfaaaDoor
