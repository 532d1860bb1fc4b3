/-
  The texts of this claim, part 5.
-/
import Derived.Test.YtjgjoohdocjpkaaGreatDoorZd
namespace Go.Proofs.YtjgjoohdocjpkaaGreatDoor
open Go.RowKit Go.Deep Go.Lib Go.Shelf Go.Sort
set_option linter.unusedVariables false
theorem begE_ok (b : List UInt8) : ∀ (k i : Nat), (begE b i k).2 = 0 → i ≤ b.length → i + k ≤ b.length ∧ ∀ j, j < k → b[i + j]? = beg[i + j]?
  | 0, i, _, h => ⟨by omega, fun j hj => by omega⟩
  | k + 1, i, he, h => by
    simp only [begE] at he
    split at he
    · cases he
    · rename_i c hc
      obtain ⟨hlt, _⟩ := List.getElem?_eq_some_iff.1 hc
      split at he
      · rename_i hcb
        obtain ⟨h1, h2⟩ := begE_ok b k (i + 1) he (by omega)
        refine ⟨by omega, fun j hj => ?_⟩
        cases j with
        | zero => rw [Nat.add_zero, hc, hcb]
        | succ j => have := h2 j (by omega); rwa [show i + 1 + j = i + (j + 1) by omega] at this
      · cases he
theorem begE_fst (b : List UInt8) : ∀ (k i : Nat), (begE b i k).2 = 0 → (begE b i k).1 = 0
  | 0, i, _ => rfl
  | k + 1, i, he => by
    simp only [begE] at he ⊢
    split at he
    · cases he
    · split at he
      · rename_i c hc hcb
        rw [if_pos hcb]
        exact begE_fst b k (i + 1) he
      · cases he
theorem lenE_ok {l : List UInt8} {f t p : Nat} (h : lenE l = ((f, t), p, 0)) (h10 : 10 ≤ l.length) : p = 0 ∧ 11 ≤ f ∧ f ≤ t ∧ t + 7 ≤ 2048 ∧ f ≤ l.length := by
  have hd := digN_le (l.drop 10) 5 0 (by omega)
  rw [List.length_drop] at hd
  unfold lenE at h
  split at h
  · simp at h
  · split at h
    · simp at h
    · split at h
      · simp at h
      · split at h
        · simp at h
        · simp only [Prod.mk.injEq] at h
          obtain ⟨⟨rfl, rfl⟩, rfl, _⟩ := h
          omega
/-- the body of the line with which bytes begin; with an error its place. -/
noncomputable def outE (l : List UInt8) : (Nat × Nat) × Nat × Int :=
  if (begE l 0 10).2 ≠ 0 then ((0, 0), (begE l 0 10).1, (begE l 0 10).2)
  else if (lenE l).2.2 ≠ 0 then ((0, 0), (lenE l).2.1, (lenE l).2.2)
  else if l.length < (lenE l).1.2 + 7 then ((0, 0), l.length, 20)
  else if ¬ TrailOk ((l.drop (lenE l).1.2).take 7) ∨ (lenE l).1.1 = (lenE l).1.2 ∨ l[(lenE l).1.2 - 1]? ≠ some 1 then ((0, 0), (lenE l).1.2, 32)
  else if (l.drop (lenE l).1.2).take 7 ≠ trailB (l.take (lenE l).1.2) then ((0, 0), (lenE l).1.2, 33)
  else ((lenE l).1, 0, 0)

set_option maxHeartbeats 2000000 in
set_option maxRecDepth 100000 in
theorem outline_beg (l : List UInt8) (q : Option Addr) (cap : Nat) (w : World) (hl : l.length < 4611686018427387904) (hS : Sb w q l) (h : (begE l 0 10).2 ≠ 0) :
    Calls Tryz.prog 30 #[.slice q l.length cap] w fun e w' => e = .returned (lenV (outE l)) ∧ Below w.heap.size w w' := by
  have hE : outE l = ((0, 0), (begE l 0 10).1, (begE l 0 10).2) := by unfold outE; rw [if_pos h]
  rw [hE]
  have A0 := hid (ball w (.cells #[.int .i64 0, .int .i64 0] 69))
  have BG := hid (beginning_any l q cap _ (by omega) (hS.on A0.out))
  obtain ⟨p, e, he⟩ : ∃ p e, begE l 0 10 = (p, e) := ⟨_, _, rfl⟩
  rw [he] at BG h ⊢
  simp only at BG h ⊢
  have hne : (e != 0) = true := by simpa using h
  clear hE he h hS
  go_enter Tryz.func30, Tryz.ntmps30
  go_wp2_with (go_at_call 47; refine BG.out.mono ?_; rintro e w1 ⟨rfl, hb⟩; have HB1 := hid (btr' A0.out hb); have q0 := cell_new 0 hb rfl; have q1 := cell_new 1 hb rfl; have r0 : w1.frozen? ⟨w.heap.size, 0, none⟩ = false := (hb.frozen (by simp)).trans (World.frozen?_alloc_new _ _ _ _); have r1 : w1.frozen? ⟨w.heap.size, 1, none⟩ = false := (hb.frozen (by simp)).trans (World.frozen?_alloc_new _ _ _ _); clear hb)
  refine bodyPost_ret (res62 Tryz.f30 2 3 4 Tryz.results30 _ _ w.heap.size (.int .i64 0) (.int .i64 0) _ _ (by rfl) (by rfl) (by rfl) ?c0 ?c1) rfl ⟨rfl, ?bel⟩
  case c0 => exact (set2 q0 q1).1
  case c1 => exact (set2 q0 q1).2
  case bel =>
    repeat (first | exact HB1.out | apply Below.setCell)
    all_goals simp

set_option maxHeartbeats 2000000 in
set_option maxRecDepth 100000 in
theorem outline_len (l : List UInt8) (b o : Nat) (cap : Nat) (w : World) (hl : l.length < 4611686018427387904) (h10 : 10 ≤ l.length) (hcap : l.length ≤ cap) (hcm : cap < 9223372036854775808) (hS : Sb w (some ⟨b, o, none⟩) l) (hL : LayE w) (h0 : (begE l 0 10).2 = 0) (h1 : (begE l 0 10).1 = 0) (h : (lenE l).2.2 ≠ 0) :
    Calls Tryz.prog 30 #[.slice (some ⟨b, o, none⟩) l.length cap] w fun e w' => e = .returned (lenV (outE l)) ∧ Below w.heap.size w w' := by
  have hE : outE l = ((0, 0), (lenE l).2.1, (lenE l).2.2) := by unfold outE; rw [if_neg (by simpa using h0), if_pos h]
  rw [hE]
  have A0 := hid (ball w (.cells #[.int .i64 0, .int .i64 0] 69))
  have BG := hid (beginning_any l (some ⟨b, o, none⟩) cap _ (by omega) (hS.on A0.out))
  have HS := hid hS
  have HL := hid hL
  have LN := hid (fun w' hS hL => length_any l b o cap w' hl h10 hcap hcm hS hL)
  rw [h0, h1] at BG
  obtain ⟨f, t, p, e, he⟩ : ∃ f t p e, lenE l = ((f, t), p, e) := ⟨_, _, _, _, rfl⟩
  rw [he] at LN h ⊢
  simp only [lenV] at LN h ⊢
  have hne : (e != 0) = true := by simpa using h
  clear hE he h hS hL h0 h1
  go_enter Tryz.func30, Tryz.ntmps30
  go_wp2_with (first | (go_at_call 47; refine BG.out.mono ?_; rintro e w1 ⟨rfl, hb⟩; have HB1 := hid (btr' A0.out hb); have q10 := cell_new 0 hb rfl; have q11 := cell_new 1 hb rfl; have r10 : w1.frozen? ⟨w.heap.size, 0, none⟩ = false := (hb.frozen (by simp)).trans (World.frozen?_alloc_new _ _ _ _); have r11 : w1.frozen? ⟨w.heap.size, 1, none⟩ = false := (hb.frozen (by simp)).trans (World.frozen?_alloc_new _ _ _ _); clear hb) | (go_at_call 48; refine (LN.out _ (HS.out.on HB1.out) (HL.out.on HB1.out)).mono ?_; rintro e w2 ⟨rfl, hb⟩; have HB2 := hid (btr' HB1.out hb); have q20 := (hb.cell (cell_lt q10)).trans q10; have q21 := (hb.cell (cell_lt q11)).trans q11; have r20 := (hb.frozen (cell_lt q10)).trans r10; have r21 := (hb.frozen (cell_lt q11)).trans r11; have hbx := ball w2 (.cells #[.int .i64 (f : Int), .int .i64 (t : Int)] 69); have qa0 := (hbx.cell (cell_lt q20)).trans q20; have qa1 := (hbx.cell (cell_lt q21)).trans q21; have ra0 := (hbx.frozen (cell_lt q20)).trans r20; have ra1 := (hbx.frozen (cell_lt q21)).trans r21; have HBX := hid (btr' HB2.out hbx); clear hb hbx))
  refine bodyPost_ret (res62 Tryz.f30 2 3 4 Tryz.results30 _ _ w.heap.size (.int .i64 0) (.int .i64 0) _ _ (by rfl) (by rfl) (by rfl) ?c0 ?c1) rfl ⟨rfl, ?bel⟩
  case c0 => exact (set2 qa0 qa1).1
  case c1 => exact (set2 qa0 qa1).2
  case bel =>
    repeat (first | exact HBX.out | apply Below.setCell)
    all_goals simp

set_option maxHeartbeats 2000000 in
set_option maxRecDepth 100000 in
theorem outline_short (l : List UInt8) (b o : Nat) (cap : Nat) (w : World) (hl : l.length < 4611686018427387904) (h10 : 10 ≤ l.length) (hcap : l.length ≤ cap) (hcm : cap < 9223372036854775808) (hS : Sb w (some ⟨b, o, none⟩) l) (hL : LayE w) (h0 : (begE l 0 10).2 = 0) (h1 : (begE l 0 10).1 = 0) (h : (lenE l).2.2 = 0) (hsh : l.length < (lenE l).1.2 + 7) :
    Calls Tryz.prog 30 #[.slice (some ⟨b, o, none⟩) l.length cap] w fun e w' => e = .returned (lenV (outE l)) ∧ Below w.heap.size w w' := by
  have hE : outE l = ((0, 0), l.length, 20) := by unfold outE; rw [if_neg (by simpa using h0), if_neg (by simpa using h), if_pos hsh]
  rw [hE]
  have A0 := hid (ball w (.cells #[.int .i64 0, .int .i64 0] 69))
  have BG := hid (beginning_any l (some ⟨b, o, none⟩) cap _ (by omega) (hS.on A0.out))
  have HS := hid hS
  have HL := hid hL
  have LN := hid (fun w' hS hL => length_any l b o cap w' hl h10 hcap hcm hS hL)
  rw [h0, h1] at BG
  obtain ⟨f, t, p, e, he⟩ : ∃ f t p e, lenE l = ((f, t), p, e) := ⟨_, _, _, _, rfl⟩
  rw [he] at LN h hsh
  simp only at h hsh
  subst h
  obtain ⟨rfl, hf, hft, ht, hfl⟩ := lenE_ok he h10
  simp only [lenV] at LN ⊢
  have EN := hid (fun w' => end_any f t w' (by omega))
  have hs2 : (l.length : Int) < (t : Int) + 7 := by omega
  clear hE he hS hL h0 h1
  go_enter Tryz.func30, Tryz.ntmps30
  go_wp2_with (first | (go_at_call 47; refine BG.out.mono ?_; rintro e w1 ⟨rfl, hb⟩; have HB1 := hid (btr' A0.out hb); have q10 := cell_new 0 hb rfl; have q11 := cell_new 1 hb rfl; have r10 : w1.frozen? ⟨w.heap.size, 0, none⟩ = false := (hb.frozen (by simp)).trans (World.frozen?_alloc_new _ _ _ _); have r11 : w1.frozen? ⟨w.heap.size, 1, none⟩ = false := (hb.frozen (by simp)).trans (World.frozen?_alloc_new _ _ _ _); clear hb) | (go_at_call 48; refine (LN.out _ (HS.out.on HB1.out) (HL.out.on HB1.out)).mono ?_; rintro e w2 ⟨rfl, hb⟩; have HB2 := hid (btr' HB1.out hb); have q20 := (hb.cell (cell_lt q10)).trans q10; have q21 := (hb.cell (cell_lt q11)).trans q11; have r20 := (hb.frozen (cell_lt q10)).trans r10; have r21 := (hb.frozen (cell_lt q11)).trans r11; clear hb) | (go_at_call 32; refine (EN.out _).mono ?_; rintro e w3 ⟨rfl, hb⟩; have hb' := btr' (ball w2 _) hb; have HB3 := hid (btr' HB2.out hb'); have q30 := (hb'.cell (cell_lt q20)).trans q20; have q31 := (hb'.cell (cell_lt q21)).trans q21; have r30 := (hb'.frozen (cell_lt q20)).trans r20; have r31 := (hb'.frozen (cell_lt q21)).trans r21; have b30 := cell_new 0 hb rfl; have b31 := cell_new 1 hb rfl; clear hb hb'))
  refine bodyPost_ret (res62 Tryz.f30 2 3 4 Tryz.results30 _ _ w.heap.size (.int .i64 0) (.int .i64 0) _ _ (by rfl) (by rfl) (by rfl) ?c0 ?c1) rfl ⟨rfl, ?bel⟩
  case c0 => exact (set2 q30 q31).1
  case c1 => exact (set2 q30 q31).2
  case bel =>
    repeat (first | exact HB3.out | apply Below.setCell)
    all_goals simp

set_option maxHeartbeats 4000000 in
set_option maxRecDepth 100000 in
theorem outline_rest (l : List UInt8) (b o : Nat) (cap : Nat) (w : World) (hl : l.length < 4611686018427387904) (h10 : 10 ≤ l.length) (hcap : l.length ≤ cap) (hcm : cap < 9223372036854775808) (hS : Sb w (some ⟨b, o, none⟩) l) (hL : LayE w) (h0 : (begE l 0 10).2 = 0) (h1 : (begE l 0 10).1 = 0) (h : (lenE l).2.2 = 0) (hsh : ¬ l.length < (lenE l).1.2 + 7) :
    Calls Tryz.prog 30 #[.slice (some ⟨b, o, none⟩) l.length cap] w fun e w' => e = .returned (lenV (outE l)) ∧ Below w.heap.size w w' := by
  have A0 := hid (ball w (.cells #[.int .i64 0, .int .i64 0] 69))
  have BG := hid (beginning_any l (some ⟨b, o, none⟩) cap _ (by omega) (hS.on A0.out))
  have HS := hid hS
  have HL := hid hL
  have LN := hid (fun w' hS hL => length_any l b o cap w' hl h10 hcap hcm hS hL)
  rw [h0, h1] at BG
  obtain ⟨R, hR⟩ : ∃ R, outE l = R := ⟨_, rfl⟩
  rw [hR]
  have HO := hid hR
  unfold outE at HO
  obtain ⟨f, t, p, e, he⟩ : ∃ f t p e, lenE l = ((f, t), p, e) := ⟨_, _, _, _, rfl⟩
  rw [he] at LN h hsh
  simp only at h hsh
  subst h
  obtain ⟨rfl, hf, hft, ht, hfl⟩ := lenE_ok he h10
  simp only [lenV] at LN
  have EN := hid (fun w' => end_any f t w' (by omega))
  have hs2 : ¬ ((l.length : Int) < (t : Int) + 7) := by omega
  have i0 : (0 : Int) ≤ (t : Int) := by omega
  have i1 : (t : Int) ≤ (t : Int) + 7 := by omega
  have i2 : (t : Int) + 7 ≤ (cap : Int) := by omega
  have i3 : ¬ cap = t := by omega
  rw [if_neg (by simpa using h0), he] at HO
  rw [if_neg (by simp), if_neg hsh] at HO
  simp only at HO
  have hTk : ((l.drop t).take 7).length = 7 := by simp; omega
  have IT := hid (fun w' => istrail_any ((l.drop t).take 7) w' hTk)
  have TA := hid (fun w' hS hL => trail_any (l.take t) (some ⟨b, o, none⟩) cap w' (by simp; omega) hS hL)
  rw [show (l.take t).length = t by simp; omega] at TA
  have hlast : l[t - 1]? = some (l[t - 1]'(by omega)) := List.getElem?_eq_getElem (by omega)
  obtain ⟨c, hc⟩ : ∃ c, l[t - 1]'(by omega) = c := ⟨_, rfl⟩
  have CL := hid (fun w' (hS : Sb w' (some ⟨b, o, none⟩) l) => hS.at (t - 1) (by omega))
  rw [hc] at hlast CL
  rw [hlast] at HO
  have CVT := hid (fun (w' : World) (hS : Sb w' (some ⟨b, o, none⟩) l) => conv_sb ((hS.drop t).take 7) (cap - t))
  rw [hTk] at CVT
  obtain ⟨TK, hTK⟩ : ∃ x, (l.drop t).take 7 = x := ⟨_, rfl⟩
  rw [hTK] at HO IT CVT
  obtain ⟨TB, hTB⟩ : ∃ x, trailB (l.take t) = x := ⟨_, rfl⟩
  rw [hTB] at HO TA
  have k0 : (0 : Int) ≤ (t : Int) - 1 := by omega
  have k1 : (t : Int) - 1 < (l.length : Int) := by omega
  have k2 : (t : Int) ≤ (cap : Int) := by omega
  have k3 : ((t : Int) - 1).toNat = t - 1 := by omega
  have h7n : ((t : Int) + 7).toNat - t = 7 := by omega
  clear he hS hL h0 h1 hR hTk hlast hc hTK hTB
  go_enter Tryz.func30, Tryz.ntmps30
  go_wp2_with (first | (go_at_call 47; refine BG.out.mono ?_; rintro e w1 ⟨rfl, hb⟩; have HB1 := hid (btr' A0.out hb); have q10 := cell_new 0 hb rfl; have q11 := cell_new 1 hb rfl; have r10 : w1.frozen? ⟨w.heap.size, 0, none⟩ = false := (hb.frozen (by simp)).trans (World.frozen?_alloc_new _ _ _ _); have r11 : w1.frozen? ⟨w.heap.size, 1, none⟩ = false := (hb.frozen (by simp)).trans (World.frozen?_alloc_new _ _ _ _); clear hb) | (go_at_call 48; refine (LN.out _ (HS.out.on HB1.out) (HL.out.on HB1.out)).mono ?_; rintro e w2 ⟨rfl, hb⟩; have HB2 := hid (btr' HB1.out hb); have q20 := (hb.cell (cell_lt q10)).trans q10; have q21 := (hb.cell (cell_lt q11)).trans q11; have r20 := (hb.frozen (cell_lt q10)).trans r10; have r21 := (hb.frozen (cell_lt q11)).trans r11; have hnA : ¬ w2.heap.size = w.heap.size := Nat.ne_of_gt (cell_lt q20); have hnB : ¬ w.heap.size = w2.heap.size := Nat.ne_of_lt (cell_lt q20); clear hb) | (go_at_call 32; refine (EN.out _).mono ?_; rintro e w3 ⟨rfl, hb⟩; have hb' := btr' (ball w2 _) hb; have HB3 := hid (btr' HB2.out hb'); have q30 := (hb'.cell (cell_lt q20)).trans q20; have q31 := (hb'.cell (cell_lt q21)).trans q21; have r30 := (hb'.frozen (cell_lt q20)).trans r20; have r31 := (hb'.frozen (cell_lt q21)).trans r21; have b30 := cell_new 0 hb rfl; have b31 := cell_new 1 hb rfl; clear hb hb'))
  go_region_with (first | (go_at_call 32; refine (EN.out _).mono ?_; rintro e w4 ⟨rfl, hb⟩; have hb3 : Below w3.heap.size w3 w4 := ⟨hb.os, hb.tape, hb.output, hb.size, hb.block⟩; have HB4 := hid (btr' HB3.out hb3); have q40 := (hb3.cell (cell_lt q30)).trans q30; have q41 := (hb3.cell (cell_lt q31)).trans q31; have r40 := (hb3.frozen (cell_lt q30)).trans r30; have r41 := (hb3.frozen (cell_lt q31)).trans r31; have b40 := (hb3.cell (cell_lt b30)).trans b30; have b41 := (hb3.cell (cell_lt b31)).trans b31; have cv4 := CVT.out w4 (HS.out.on HB4.out); clear hb hb3))
  all_goals
    by_cases c1 : TrailOk TK
    · rw [decide_eq_true c1] at IT
      by_cases c2 : f = t
      · rw [if_pos (Or.inr (Or.inl c2))] at HO
        obtain rfl := HO.out
        have m2 : ((f : Int) == (t : Int)) = true := by simp; omega
        clear HO c1 c2
        go_wp2_with (first | (go_at_call 49; refine (IT.out _).mono ?_; rintro e w5 ⟨rfl, hb⟩; have HB5 := hid (btr' HB4.out hb); have q50 := (hb.cell (cell_lt q40)).trans q40; have q51 := (hb.cell (cell_lt q41)).trans q41; have r50 := (hb.frozen (cell_lt q40)).trans r40; have r51 := (hb.frozen (cell_lt q41)).trans r41; have b50 := (hb.cell (cell_lt b40)).trans b40; have b51 := (hb.cell (cell_lt b41)).trans b41; have c5 := CL.out w5 (HS.out.on HB5.out); clear hb))
        go_region
        all_goals
          go_wp2
          refine bodyPost_ret (res62 Tryz.f30 2 3 4 Tryz.results30 _ _ w.heap.size (.int .i64 0) (.int .i64 0) _ _ (by rfl) (by rfl) (by rfl) ?c0 ?c1) rfl ⟨rfl, ?bel⟩
          case c0 => first | exact (set2 q50 q51).1 | exact (set2 (w := w5.drew) q50 q51).1
          case c1 => first | exact (set2 q50 q51).2 | exact (set2 (w := w5.drew) q50 q51).2
          case bel =>
            repeat (first | exact HB5.out | exact HB5.out.drew | apply Below.drew | apply Below.setCell)
            all_goals simp
      · have m2 : ((f : Int) == (t : Int)) = false := by simp; omega
        by_cases c3 : c = 1
        · rw [if_neg (by rintro (h | h | h); exact h c1; exact c2 h; exact h (by rw [c3]))] at HO
          subst c3
          by_cases c4 : TK = TB
          · rw [if_neg (by simpa using c4)] at HO
            obtain rfl := HO.out
            subst c4
            clear HO c1 c2
            go_wp2_with (first | (go_at_call 49; refine (IT.out _).mono ?_; rintro e w5 ⟨rfl, hb⟩; have HB5 := hid (btr' HB4.out hb); have q50 := (hb.cell (cell_lt q40)).trans q40; have q51 := (hb.cell (cell_lt q41)).trans q41; have r50 := (hb.frozen (cell_lt q40)).trans r40; have r51 := (hb.frozen (cell_lt q41)).trans r41; have b50 := (hb.cell (cell_lt b40)).trans b40; have b51 := (hb.cell (cell_lt b41)).trans b41; have c5 := CL.out w5 (HS.out.on HB5.out); clear hb) | (go_at_call 50; refine (TA.out _ ((HS.out.on HB5.out).take t) (HL.out.on HB5.out).lay).mono ?_; rintro e w6 ⟨rfl, hb⟩; have HB6 := hid (btr' HB5.out hb); have q60 := (hb.cell (cell_lt q50)).trans q50; have q61 := (hb.cell (cell_lt q51)).trans q51; have r60 := (hb.frozen (cell_lt q50)).trans r50; have r61 := (hb.frozen (cell_lt q51)).trans r51; have b60 := (hb.cell (cell_lt b50)).trans b50; have b61 := (hb.cell (cell_lt b51)).trans b51; clear hb))
            refine bodyPost_ret (res62 Tryz.f30 2 3 4 Tryz.results30 _ _ w.heap.size (.int .i64 (f : Int)) (.int .i64 (t : Int)) _ _ (by rfl) (by rfl) (by rfl) ?c0 ?c1) rfl ⟨rfl, ?bel⟩
            case c0 => first | exact (set2 q60 q61).1 | exact (set2 (w := w6.drew) q60 q61).1
            case c1 => first | exact (set2 q60 q61).2 | exact (set2 (w := w6.drew) q60 q61).2
            case bel =>
              repeat (first | exact HB6.out | exact HB6.out.drew | apply Below.drew | apply Below.setCell)
              all_goals simp
          · rw [if_pos c4] at HO
            obtain rfl := HO.out
            have m4 : (TK == TB) = false := by simpa using c4
            clear HO c1 c2 c4
            go_wp2_with (first | (go_at_call 49; refine (IT.out _).mono ?_; rintro e w5 ⟨rfl, hb⟩; have HB5 := hid (btr' HB4.out hb); have q50 := (hb.cell (cell_lt q40)).trans q40; have q51 := (hb.cell (cell_lt q41)).trans q41; have r50 := (hb.frozen (cell_lt q40)).trans r40; have r51 := (hb.frozen (cell_lt q41)).trans r41; have b50 := (hb.cell (cell_lt b40)).trans b40; have b51 := (hb.cell (cell_lt b41)).trans b41; have c5 := CL.out w5 (HS.out.on HB5.out); clear hb) | (go_at_call 50; refine (TA.out _ ((HS.out.on HB5.out).take t) (HL.out.on HB5.out).lay).mono ?_; rintro e w6 ⟨rfl, hb⟩; have HB6 := hid (btr' HB5.out hb); have q60 := (hb.cell (cell_lt q50)).trans q50; have q61 := (hb.cell (cell_lt q51)).trans q51; have r60 := (hb.frozen (cell_lt q50)).trans r50; have r61 := (hb.frozen (cell_lt q51)).trans r51; have b60 := (hb.cell (cell_lt b50)).trans b50; have b61 := (hb.cell (cell_lt b51)).trans b51; clear hb))
            go_region
            all_goals
              go_wp2
              refine bodyPost_ret (res62 Tryz.f30 2 3 4 Tryz.results30 _ _ w.heap.size (.int .i64 0) (.int .i64 0) _ _ (by rfl) (by rfl) (by rfl) ?c0 ?c1) rfl ⟨rfl, ?bel⟩
              case c0 => first | exact (set2 q60 q61).1 | exact (set2 (w := w6.drew) q60 q61).1
              case c1 => first | exact (set2 q60 q61).2 | exact (set2 (w := w6.drew) q60 q61).2
              case bel =>
                repeat (first | exact HB6.out | exact HB6.out.drew | apply Below.drew | apply Below.setCell)
                all_goals simp
        · rw [if_pos (Or.inr (Or.inr (by simpa using c3)))] at HO
          obtain rfl := HO.out
          have m3 : ((c.toNat : Int) != 1) = true := by
            simp
            intro e
            have e2 : c.toNat = 1 := by omega
            exact c3 (UInt8.toNat_inj.1 (by simpa using e2))
          clear HO c1 c2 c3
          go_wp2_with (first | (go_at_call 49; refine (IT.out _).mono ?_; rintro e w5 ⟨rfl, hb⟩; have HB5 := hid (btr' HB4.out hb); have q50 := (hb.cell (cell_lt q40)).trans q40; have q51 := (hb.cell (cell_lt q41)).trans q41; have r50 := (hb.frozen (cell_lt q40)).trans r40; have r51 := (hb.frozen (cell_lt q41)).trans r41; have b50 := (hb.cell (cell_lt b40)).trans b40; have b51 := (hb.cell (cell_lt b41)).trans b41; have c5 := CL.out w5 (HS.out.on HB5.out); clear hb))
          go_region
          all_goals
            go_wp2
            refine bodyPost_ret (res62 Tryz.f30 2 3 4 Tryz.results30 _ _ w.heap.size (.int .i64 0) (.int .i64 0) _ _ (by rfl) (by rfl) (by rfl) ?c0 ?c1) rfl ⟨rfl, ?bel⟩
            case c0 => first | exact (set2 q50 q51).1 | exact (set2 (w := w5.drew) q50 q51).1
            case c1 => first | exact (set2 q50 q51).2 | exact (set2 (w := w5.drew) q50 q51).2
            case bel =>
              repeat (first | exact HB5.out | exact HB5.out.drew | apply Below.drew | apply Below.setCell)
              all_goals simp
    · rw [decide_eq_false c1] at IT
      rw [if_pos (Or.inl c1)] at HO
      obtain rfl := HO.out
      clear HO c1
      go_wp2_with (first | (go_at_call 49; refine (IT.out _).mono ?_; rintro e w5 ⟨rfl, hb⟩; have HB5 := hid (btr' HB4.out hb); have q50 := (hb.cell (cell_lt q40)).trans q40; have q51 := (hb.cell (cell_lt q41)).trans q41; have r50 := (hb.frozen (cell_lt q40)).trans r40; have r51 := (hb.frozen (cell_lt q41)).trans r41; have b50 := (hb.cell (cell_lt b40)).trans b40; have b51 := (hb.cell (cell_lt b41)).trans b41; have c5 := CL.out w5 (HS.out.on HB5.out); clear hb))
      go_region
      all_goals
        go_wp2
        refine bodyPost_ret (res62 Tryz.f30 2 3 4 Tryz.results30 _ _ w.heap.size (.int .i64 0) (.int .i64 0) _ _ (by rfl) (by rfl) (by rfl) ?c0 ?c1) rfl ⟨rfl, ?bel⟩
        case c0 => first | exact (set2 q50 q51).1 | exact (set2 (w := w5.drew) q50 q51).1
        case c1 => first | exact (set2 q50 q51).2 | exact (set2 (w := w5.drew) q50 q51).2
        case bel =>
          repeat (first | exact HB5.out | exact HB5.out.drew | apply Below.drew | apply Below.setCell)
          all_goals simp

/-- text.outline. -/
theorem outline_any (l : List UInt8) (q : Option Addr) (cap : Nat) (w : World) (hl : l.length < 4611686018427387904) (hcap : l.length ≤ cap) (hcm : cap < 9223372036854775808) (hS : Sb w q l) (hL : LayE w) :
    Calls Tryz.prog 30 #[.slice q l.length cap] w fun e w' => e = .returned (lenV (outE l)) ∧ Below w.heap.size w w' := by
  by_cases h : (begE l 0 10).2 = 0
  · obtain ⟨h10, _⟩ := begE_ok l 10 0 h (Nat.zero_le _)
    obtain ⟨b, o, rfl, _⟩ := hS 0 (by omega)
    have h1 := begE_fst l 10 0 h
    by_cases h2 : (lenE l).2.2 = 0
    · by_cases h3 : l.length < (lenE l).1.2 + 7
      · exact outline_short l b o cap w hl (by omega) hcap hcm hS hL h h1 h2 h3
      · exact outline_rest l b o cap w hl (by omega) hcap hcm hS hL h h1 h2 h3
    · exact outline_len l b o cap w hl (by omega) hcap hcm hS hL h h1 h2
  · exact outline_beg l q cap w hl hS h
end Go.Proofs.YtjgjoohdocjpkaaGreatDoor
namespace Go.Proofs
open Go.Shelf
def Tryz.lays145_ren : Go.Shelf.Ren := ⟨fun | 145 => 74 | 220 => 82 | 219 => 86 | 217 => 97 | 225 => 98 | 224 => 99 | 267 => 100 | 266 => 109 | 314 => 110 | n => n, fun | 9 => 9 | 4 => 4 | 59 => 116 | 3 => 3 | 5 => 5 | 46 => 130 | 146 => 149 | 51 => 25 | n => n, fun | 1 => 0 | n => n⟩
theorem Tryz.lays145 : Go.Proofs.Lays.n145 Tryz.prog Tryz.lays145_ren := {
  mixed := by kernel_rfl
  f145 := Tryz.func74.trans (congrArg some (by kernel_rfl))
  f217 := Tryz.func97.trans (congrArg some (by kernel_rfl))
  f219 := Tryz.func86.trans (congrArg some (by kernel_rfl))
  f220 := Tryz.func82.trans (congrArg some (by kernel_rfl))
  f224 := Tryz.func99.trans (congrArg some (by kernel_rfl))
  f225 := Tryz.func98.trans (congrArg some (by kernel_rfl))
  f266 := Tryz.func109.trans (congrArg some (by kernel_rfl))
  f267 := Tryz.func100.trans (congrArg some (by kernel_rfl))
  f314 := Tryz.func110.trans (congrArg some (by kernel_rfl))
  t3 := Tryz.underlying3
  a3 := Tryz.isAgg3
  z3 := Tryz.sizeOf3
  v3 := Tryz.zeroValue3
  t4 := Tryz.underlying4
  a4 := Tryz.isAgg4
  z4 := Tryz.sizeOf4
  v4 := Tryz.zeroValue4
  t5 := Tryz.underlying5
  a5 := Tryz.isAgg5
  z5 := Tryz.sizeOf5
  v5 := Tryz.zeroValue5
  t9 := Tryz.underlying9
  a9 := Tryz.isAgg9
  z9 := Tryz.sizeOf9
  v9 := Tryz.zeroValue9
  t46 := Tryz.underlying130
  a46 := Tryz.isAgg130
  z46 := Tryz.sizeOf130
  v46 := Tryz.zeroValue130
  t51 := Tryz.underlying25
  a51 := Tryz.isAgg25
  z51 := Tryz.sizeOf25
  v51 := Tryz.zeroValue25
  t59 := Tryz.underlying116
  a59 := Tryz.isAgg116
  z59 := Tryz.sizeOf116
  v59 := Tryz.zeroValue116
  t146 := Tryz.underlying149
  a146 := Tryz.isAgg149
  z146 := Tryz.sizeOf149
  v146 := Tryz.zeroValue149
  g1 := by kernel_rfl }
open Go.RowKit Go.Lib in
theorem Tryz.strings_Cut (s sep : ByteArray) (m : Int) (w : World) (hs : s.size < 4294967281) (hm : w.cell? ⟨0, 0, none⟩ = some (.int .i64 m)) :
    Calls Tryz.prog 74 #[.string s, .string sep] w fun e w' => e = .returned (.tuple #[.string ⟨(Lib.cut s.data.toList sep.data.toList).1.toArray⟩, .string ⟨(Lib.cut s.data.toList sep.data.toList).2.1.toArray⟩, .bool (Lib.cut s.data.toList sep.data.toList).2.2]) ∧ ∃ n, w' = w.drewN n := Any.strings_Cut Tryz.lays145 s sep m w hs hm
end Go.Proofs
namespace Go.Proofs.YtjgjoohdocjpkaaGreatDoor
open Go.RowKit Go.Deep Go.Lib Go.Shelf Go.Sort
set_option linter.unusedVariables false
open Classical in
noncomputable def kindE (x : Int × List UInt8) : List UInt8 × Int := if x.1 = 35 ∧ KindOk x.2 then (x.2, 0) else ([], 3)
set_option maxHeartbeats 2000000 in
set_option maxRecDepth 100000 in
/-- text.kindOf. -/
theorem kindof_any (t : Int) (v : List UInt8) (w : World) (hv : v.length < 9223372036854775808) :
    Calls Tryz.prog 52 #[.agg #[.int .i64 t, .string ⟨v.toArray⟩]] w fun e w' => e = .returned (.tuple #[.string ⟨(kindE (t, v)).1.toArray⟩, .int .i64 (kindE (t, v)).2]) ∧ Below w.heap.size w w' := by
  have A0 := hid (ball w (.cells #[.int .i64 t, .string ⟨v.toArray⟩] 65))
  have IK := hid (fun w' => iskind_any v w' hv)
  by_cases ht : t = 35
  · subst ht
    by_cases hk : KindOk v
    · have e : kindE (35, v) = (v, 0) := by unfold kindE; rw [if_pos ⟨rfl, hk⟩]
      rw [e]
      rw [decide_eq_true hk] at IK
      clear e hk
      go_enter Tryz.func52, Tryz.ntmps52
      go_wp2_with (go_at_call 75; refine (IK.out _).mono ?_; rintro e w1 ⟨rfl, hw⟩; subst hw)
      go_ret2
      exact ⟨rfl, A0.out⟩
    · have e : kindE (35, v) = ([], 3) := by unfold kindE; rw [if_neg (fun h => hk h.2)]
      rw [e]
      rw [decide_eq_false hk] at IK
      clear e hk
      go_enter Tryz.func52, Tryz.ntmps52
      go_wp2_with (go_at_call 75; refine (IK.out _).mono ?_; rintro e w1 ⟨rfl, hw⟩; subst hw)
      go_ret2
      exact ⟨rfl, A0.out⟩
  · have e : kindE (t, v) = ([], 3) := by unfold kindE; rw [if_neg (fun h => ht h.1)]
    rw [e]
    have hne : (t != 35) = true := by simpa using ht
    clear e ht
    go_enter Tryz.func52, Tryz.ntmps52
    go_wp2
    go_ret2
    exact ⟨rfl, A0.out⟩

/-- .. and a number of the library's. -/
structure LayM (w : World) : Prop where
  laye : LayE w
  mx : ∃ m, w.cell? ⟨0, 0, none⟩ = some (.int .i64 m)
theorem LayM.on {w w' : World} (h : LayM w) (hb : Below w.heap.size w w') : LayM w' := by
  obtain ⟨m, hm⟩ := h.mx
  exact ⟨h.laye.on hb, m, by rw [hb.cell (cell_lt hm)]; exact hm⟩
theorem info28 : (Tryz.prog.info? 65).map (·.size) = some 2 := by kernel_rfl
theorem res28 (fn : Func) (p u : Tmp) (h : fn.results = #[.cell p 65, .tmp u]) (tmps : Array Value) (w : World) (g : Nat) (a b eu : Value)
    (hp : tmps.getD p undef = .pointer (some ⟨g, 0, none⟩)) (hu : tmps.getD u undef = eu) (h0 : w.cell? ⟨g, 0, none⟩ = some a) (h1 : w.cell? ⟨g, 1, none⟩ = some b) :
    (results fn tmps).run Tryz.prog w = .ok (.tuple #[.agg #[a, b], eu]) w := by
  have hp' : tmps[p]?.getD undef = .pointer (some ⟨g, 0, none⟩) := by simpa using hp
  have hu' : tmps[u]?.getD undef = eu := by simpa using hu
  have hr : w.rangeAt g 0 [a, b] := by
    intro j x hj
    match j, hj with
    | 0, hj => simp at hj; subst hj; simpa using h0
    | 1, hj => simp at hj; subst hj; simpa using h1
  simp [results, h, hp', hu', asAddr, run_loadVar_mid w g 0 65 [a, b] _ hr Tryz.underlying65 rfl info28]
/-- a field's tag and value; false: it has no tag. -/
def fieldE (s : List UInt8) : (Int × List UInt8) × Bool :=
  if (Lib.cut s [61]).2.2 = false ∨ 4 < (Lib.cut s [61]).1.length then ((0, []), false)
  else ((((num (Lib.cut s [61]).1).getD 0 : Nat), (Lib.cut s [61]).2.1), (num (Lib.cut s [61]).1).isSome)
set_option maxHeartbeats 2000000 in
set_option maxRecDepth 100000 in
/-- text.readField. -/
theorem readfield_any (s : List UInt8) (w : World) (hs : s.length < 100000) (hM : LayM w) :
    Calls Tryz.prog 51 #[.string ⟨s.toArray⟩] w fun e w' => e = .returned (.tuple #[.agg #[.int .i64 (fieldE s).1.1, .string ⟨(fieldE s).1.2.toArray⟩], .bool (fieldE s).2]) ∧ Below w.heap.size w w' := by
  obtain ⟨W, hW⟩ : ∃ W, w.alloc (.cells #[.int .i64 0, .string ⟨#[]⟩] 65) = W := ⟨_, rfl⟩
  have HBW := hid (show Below w.heap.size w W from hW ▸ ball w _)
  have HMW := hid (hM.on HBW.out)
  obtain ⟨m, hm⟩ := HMW.out.mx
  have CT := hid (Tryz.strings_Cut ⟨s.toArray⟩ ⟨#[61]⟩ m W (by simp [ByteArray.size]; omega) hm)
  simp only at CT
  have c0 : W.cell? ⟨w.heap.size, 0, none⟩ = some (.int .i64 0) := by subst hW; exact World.cell?_alloc_new _ _ _ _
  have c1 : W.cell? ⟨w.heap.size, 1, none⟩ = some (.string ⟨#[]⟩) := by subst hW; exact World.cell?_alloc_new _ _ _ _
  have f0 : W.frozen? ⟨w.heap.size, 0, none⟩ = false := by subst hW; exact World.frozen?_alloc_new _ _ _ _
  have f1 : W.frozen? ⟨w.heap.size, 1, none⟩ = false := by subst hW; exact World.frozen?_alloc_new _ _ _ _
  obtain ⟨R, hR⟩ : ∃ R, fieldE s = R := ⟨_, rfl⟩
  have HE := hid hR
  unfold fieldE at HE
  rw [hR]
  have hle : (Lib.cut s [61]).1.length ≤ s.length := by
    unfold Lib.cut
    split
    · simp; omega
    · exact Nat.le_refl _
  have hle2 : (Lib.cut s [61]).2.1.length ≤ s.length := by
    unfold Lib.cut
    split
    · simp
    · simp
  obtain ⟨hd, vl, ok, hcut⟩ : ∃ a b c, Lib.cut s [61] = (a, b, c) := ⟨_, _, _, rfl⟩
  rw [hcut] at CT HE hle hle2
  simp only at CT HE hle hle2
  have HWs := hid (show W.heap.size = w.heap.size + 1 by subst hW; simp)
  clear hcut hR hM hm
  have DB := hid (fun (n : Nat) => (show Below W.heap.size W (W.drewN n) from ⟨rfl, rfl, rfl, Nat.le_refl _, fun _ _ => rfl⟩))
  cases ok with
  | false =>
    rw [if_pos (Or.inl rfl)] at HE
    obtain rfl := HE.out
    clear HE
    go_enter Tryz.func51, Tryz.ntmps51
    go_wp2_with (first | (go_at_call 74; refine CT.out.mono ?_; rintro e w1 ⟨rfl, n, hw⟩; have hb : Below W.heap.size W w1 := hw ▸ DB.out n; have HB1 := hid (btr' HBW.out hb); have q0 := (hb.cell (cell_lt c0)).trans c0; have q1 := (hb.cell (cell_lt c1)).trans c1; have r0 := (hb.frozen (cell_lt c0)).trans f0; have r1 := (hb.frozen (cell_lt c1)).trans f1; have HM1 := hid (HMW.out.on hb); clear hb hw))
    refine bodyPost_ret (res28 Tryz.f51 2 3 Tryz.results51 _ _ w.heap.size (.int .i64 0) (.string ⟨#[]⟩) _ (by rfl) (by rfl) ?c0 ?c1) rfl ⟨rfl, ?bel⟩
    case c0 => exact (set2 q0 q1).1
    case c1 => exact (set2 q0 q1).2
    case bel =>
      repeat (first | exact HB1.out | apply Below.setCell)
      all_goals simp
  | true =>
    by_cases h4 : 4 < hd.length
    · rw [if_pos (Or.inr h4)] at HE
      obtain rfl := HE.out
      have g4 : (4 : Int) < (hd.length : Int) := by omega
      clear HE
      go_enter Tryz.func51, Tryz.ntmps51
      go_wp2_with (first | (go_at_call 74; refine CT.out.mono ?_; rintro e w1 ⟨rfl, n, hw⟩; have hb : Below W.heap.size W w1 := hw ▸ DB.out n; have HB1 := hid (btr' HBW.out hb); have q0 := (hb.cell (cell_lt c0)).trans c0; have q1 := (hb.cell (cell_lt c1)).trans c1; have r0 := (hb.frozen (cell_lt c0)).trans f0; have r1 := (hb.frozen (cell_lt c1)).trans f1; have HM1 := hid (HMW.out.on hb); clear hb hw))
      refine bodyPost_ret (res28 Tryz.f51 2 3 Tryz.results51 _ _ w.heap.size (.int .i64 0) (.string ⟨#[]⟩) _ (by rfl) (by rfl) ?c0 ?c1) rfl ⟨rfl, ?bel⟩
      case c0 => exact (set2 q0 q1).1
      case c1 => exact (set2 q0 q1).2
      case bel =>
        repeat (first | exact HB1.out | apply Below.setCell)
        all_goals simp
    · rw [if_neg (by rintro (h | h); cases h; exact h4 h)] at HE
      obtain rfl := HE.out
      have g4 : ¬ ((4 : Int) < (hd.length : Int)) := by omega
      have NB := hid (fun w' hL => number_any hd (by omega) w' hL)
      have hnb : (num hd).getD 0 < 100000 := by
        cases hn : num hd with
        | none => simp
        | some k => exact num_lt5 hd k hn (by omega)
      obtain ⟨nn, hnn⟩ : ∃ n, (num hd).getD 0 = n := ⟨_, rfl⟩
      obtain ⟨ob, hob⟩ : ∃ n, (num hd).isSome = n := ⟨_, rfl⟩
      rw [hnn] at NB hnb ⊢
      rw [hob] at NB ⊢
      have hwn : IntKind.i64.wrap (nn : Int) = (nn : Int) := by rw [IntKind.wrap_i64]; omega
      clear HE hnn hob
      go_enter Tryz.func51, Tryz.ntmps51
      go_wp2_with (first | (go_at_call 74; refine CT.out.mono ?_; rintro e w1 ⟨rfl, n, hw⟩; have hb : Below W.heap.size W w1 := hw ▸ DB.out n; have HB1 := hid (btr' HBW.out hb); have q0 := (hb.cell (cell_lt c0)).trans c0; have q1 := (hb.cell (cell_lt c1)).trans c1; have r0 := (hb.frozen (cell_lt c0)).trans f0; have r1 := (hb.frozen (cell_lt c1)).trans f1; have HM1 := hid (HMW.out.on hb); clear hb hw) | (go_at_call 55; refine (NB.out _ HM1.out.laye).mono ?_; rintro e w2 ⟨rfl, hb⟩; have HB2 := hid (btr' HB1.out hb); have p0 := (hb.cell (cell_lt q0)).trans q0; have p1 := (hb.cell (cell_lt q1)).trans q1; have t0 := (hb.frozen (cell_lt q0)).trans r0; have t1 := (hb.frozen (cell_lt q1)).trans r1; clear hb))
      refine bodyPost_ret (res28 Tryz.f51 2 3 Tryz.results51 _ _ w.heap.size (.int .i64 (nn : Int)) (.string ⟨vl.toArray⟩) _ (by rfl) (by rfl) ?c0 ?c1) rfl ⟨rfl, ?bel⟩
      case c0 => exact (set2 p0 p1).1
      case c1 => exact (set2 p0 p1).2
      case bel =>
        repeat (first | exact HB2.out | apply Below.setCell)
        all_goals simp
end Go.Proofs.YtjgjoohdocjpkaaGreatDoor
namespace Go.Proofs.YtjgjoohdocjpkaaGreatDoor
open Go.RowKit Go.Deep Go.Lib Go.Shelf Go.Sort
set_option linter.unusedVariables false
/-- what readBody tells: the kind, the fields; with an error the place where its field begins. -/
noncomputable def bodyR (body : List UInt8) : List UInt8 → Nat → Nat → List UInt8 → List (Int × List UInt8) → List UInt8 × List (Int × List UInt8) × Nat × Int
  | [], _, _, kind, l => (kind, l, 0, 0)
  | c :: r, i, g, kind, l =>
    if c ≠ 1 then bodyR body r (i + 1) g kind l
    else if (fieldE ((body.drop g).take (i - g))).2 = false then ([], [], g, 3)
    else if g = 0 then
      (if (kindE (fieldE ((body.drop g).take (i - g))).1).2 ≠ 0 then ([], [], g, (kindE (fieldE ((body.drop g).take (i - g))).1).2)
       else bodyR body r (i + 1) (i + 1) (kindE (fieldE ((body.drop g).take (i - g))).1).1 l)
    else if l.length = 64 then ([], [], g, 2)
    else if fitsE l (fieldE ((body.drop g).take (i - g))).1 ≠ 0 then ([], [], g, fitsE l (fieldE ((body.drop g).take (i - g))).1)
    else bodyR body r (i + 1) (i + 1) kind (l ++ [(fieldE ((body.drop g).take (i - g))).1])
/-- tags in a slice of one's own. -/
def OwnT (B : Nat) (W0 w : World) (v : Value) (l : List (Int × List UInt8)) : Prop := w.ownsRow B 65 2 v l.length (tv l) ∧ Below B W0 w ∧ B ≤ w.heap.size
theorem OwnT.on {B : Nat} {W0 w w' : World} {v : Value} {l : List (Int × List UInt8)} (h : OwnT B W0 w v l) (hb : Below w.heap.size w w') : OwnT B W0 w' v l := by
  obtain ⟨⟨h1, h2⟩, h3, h4⟩ := h
  refine ⟨⟨h1, ?_⟩, h3.trans (hb.mono h4), Nat.le_trans h4 hb.size⟩
  rcases h2 with h2 | ⟨g, cap, cur, e, hB, hg, r⟩
  · exact Or.inl h2
  · refine Or.inr ⟨g, cap, cur, e, hB, ?_, r⟩
    have hlt : g < w.heap.size := by
      rcases Nat.lt_or_ge g w.heap.size with h | h
      · exact h
      · rw [Array.getElem?_eq_none h] at hg; cases hg
    rw [hb.block g hlt]; exact hg
theorem OwnT.form {B : Nat} {W0 w : World} {v : Value} {l : List (Int × List UInt8)} (h : OwnT B W0 w v l) : ∃ q cap, v = .slice q l.length cap ∧ Ts w q l ∧ l.length ≤ cap ∧ cap < 9223372036854775808 := by
  rcases h.1.2 with ⟨rfl, hn⟩ | ⟨g, cap, cur, e, hB, hg, h5, h6, h7, h8⟩
  · have hl : l = [] := List.length_eq_zero_iff.1 hn
    subst hl
    exact ⟨none, 0, rfl, (fun i hi => by simp at hi), Nat.le_refl _, by decide⟩
  · refine ⟨some ⟨g, 0, none⟩, cap, e, ?_, h5, by unfold maxLen at h6; omega⟩
    have h := h.1
    rw [e] at h
    exact ts_own rfl h
theorem ownT_nil (w : World) : OwnT w.heap.size w w (.slice none 0 0) [] := ⟨World.ownsRow_nil _ _ _ _, Below.refl _ _, Nat.le_refl _⟩
theorem ownT_nilB {w w' : World} (h : Below w.heap.size w w') : OwnT w.heap.size w w' (.slice none 0 0) [] := ⟨World.ownsRow_nil _ _ _ _, h, h.size⟩
/-- one tag behind a slice of one's own. -/
theorem own_tag {ops : Array Oper} {rest : List Oper} {o : Oper} {a : Act} {Q : Exit → Act → World → Prop} (hgd : o.guard = none) (sl x : Operand)
    (ho : o.op = .call { callee := .builtin .append, args := #[sl, x], argTypes := #[39, 39] }) (B : Nat) (v : Value) (l : List (Int × List UInt8)) (hs : a.eval sl = v) (W0 w0 : World) (t : Int) (s : List UInt8) (hb0 : OwnT B W0 w0 v l) (hx : a.eval x = .slice (some ⟨w0.heap.size, 0, none⟩) 1 1) (hlen : l.length ≤ 1000)
    (h : ∀ v' w', OwnT B W0 w' v' (l ++ [(t, s)]) → wpList Tryz.prog ops Q rest (a.put o.dst v') w') : wpList Tryz.prog ops Q (o :: rest) a (w0.alloc (.cells #[.int .i64 t, .string ⟨s.toArray⟩] 65)) := by
  obtain ⟨i0, hi, hz0, hz1, hz2⟩ := info_parts info28all
  have hb' : OwnT B W0 (w0.alloc (.cells #[.int .i64 t, .string ⟨s.toArray⟩] 65)) v l := hb0.on (ball _ _)
  refine wpList_append_own _ hgd sl x 39 ho B 65 i0 _ 2 24 Tryz.underlying39 hi hz0 hz1 hz2 rfl (by decide) v l.length _ hs hb'.1 ⟨w0.heap.size, 0, none⟩ 1 1 (tv [(t, s)]) hx rfl ?_ (tv_one _) (by unfold maxLen; omega) (by omega) hb'.2.2 ?_
  · intro j u hj
    rw [Addr.add_mid, Nat.zero_add, World.cell?_alloc_new]
    simpa [tv] using hj
  · intro v' w' ho' hg _
    refine h v' w' ⟨?_, hb'.2.1.grown hg hb'.2.2 (fun k hk => (hb'.1.lt k hk).1), Nat.le_trans hb'.2.2 hg.size⟩
    rw [tv_append, List.length_append]
    exact ho'

theorem res4 (fn : Func) (p u v x : Tmp) (h : fn.results = #[.tmp p, .tmp u, .tmp v, .tmp x]) (tmps : Array Value) (w : World) (ep eu ev ex : Value)
    (hp : tmps.getD p undef = ep) (hu : tmps.getD u undef = eu) (hv : tmps.getD v undef = ev) (hx : tmps.getD x undef = ex) :
    (results fn tmps).run Tryz.prog w = .ok (.tuple #[ep, eu, ev, ex]) w := by
  have hp' : tmps[p]?.getD undef = ep := by simpa using hp
  have hu' : tmps[u]?.getD undef = eu := by simpa using hu
  have hv' : tmps[v]?.getD undef = ev := by simpa using hv
  have hx' : tmps[x]?.getD undef = ex := by simpa using hx
  simp [results, h, hp', hu', hv', hx']
theorem fieldE_len (s : List UInt8) : (fieldE s).1.2.length ≤ s.length := by
  unfold fieldE
  split
  · simp
  · show (Lib.cut s [61]).2.1.length ≤ s.length
    unfold Lib.cut
    split
    · simp
    · simp
theorem OwnT.form' {B : Nat} {W0 w : World} {q : Option Addr} {c n : Nat} {l : List (Int × List UInt8)} (h : OwnT B W0 w (.slice q n c) l) : Ts w q l := by
  obtain ⟨q', c', e, hT, _⟩ := h.form
  have : q = q' := by simp at e; exact e.1
  rw [this]; exact hT
theorem bodyR_cons (body : List UInt8) {i : Nat} (hi : i < body.length) (g : Nat) (kind : List UInt8) (l : List (Int × List UInt8)) : bodyR body (body.drop i) i g kind l = bodyR body (body[i] :: body.drop (i + 1)) i g kind l := by
  rw [← List.drop_eq_getElem_cons hi]

set_option maxHeartbeats 4000000 in
set_option maxRecDepth 100000 in
/-- text.readBody. -/
theorem readbody_any (body : List UInt8) (q : Option Addr) (cap : Nat) (w : World) (hl : body.length ≤ 5000) (hcap : body.length ≤ cap) (hcm : cap < 9223372036854775808) (hS : Sb w q body) (hM : LayM w) :
    Calls Tryz.prog 31 #[.slice q body.length cap] w fun e w' => ∃ v, e = .returned (.tuple #[.string ⟨(bodyR body body 0 0 [] []).1.toArray⟩, v, .int .i64 ((bodyR body body 0 0 [] []).2.2.1 : Nat), .int .i64 (bodyR body body 0 0 [] []).2.2.2]) ∧ OwnT w.heap.size w w' v (bodyR body body 0 0 [] []).2.1 := by
  have HS := hid hS
  have HM := hid hM
  obtain ⟨R, hR⟩ : ∃ R, bodyR body body 0 0 [] [] = R := ⟨_, rfl⟩
  rw [hR]
  have HR := hid hR
  clear hS hM hR
  go_enter Tryz.func31, Tryz.ntmps31
  go_wp2_with fail
  go_loopw [6, 7, 8, 15] (fun kv lv gv iv wr => ∃ (i g : Nat) (kind : List UInt8) (l : List (Int × List UInt8)), i ≤ body.length ∧ g ≤ i ∧ kv = .string ⟨kind.toArray⟩ ∧ gv = .int .i64 g ∧ iv = .int .i64 i ∧ l.length ≤ 64 ∧ Hid (OwnT w.heap.size w wr lv l) ∧ Hid (bodyR body (body.drop i) i g kind l = R)) (fun _ _ _ iv _ => body.length - (RowKit.intOf iv).toNat)
  case atStart => exact ⟨0, 0, [], [], Nat.zero_le _, Nat.le_refl _, rfl, rfl, rfl, by simp, hid (ownT_nil _), hid (by simpa using HR.out)⟩
  case round =>
    obtain ⟨i, g, kind, l, hi, hg, rfl, rfl, rfl, hl64, HO, HE⟩ := hrel
    by_cases hlt : i < body.length
    · obtain ⟨b, o, rfl, h0⟩ := (HS.out.on HO.out.2.1) i hlt
      obtain ⟨ql, cl, rfl, hTl, hcl, _⟩ := HO.out.form
      have i0 : (0 : Int) ≤ (i : Int) := by omega
      have i1 : (i : Int) < (body.length : Int) := by omega
      have he := HE.out
      rw [bodyR_cons body hlt] at he
      obtain ⟨c, hc⟩ : ∃ c, body[i] = c := ⟨_, rfl⟩
      rw [hc] at h0 he
      simp only [bodyR] at he
      by_cases hc1 : c = 1
      · rw [if_neg (by simpa using hc1)] at he
        subst hc1
        have j0 : (0 : Int) ≤ (g : Int) := by omega
        have j1 : (g : Int) ≤ (i : Int) := by omega
        have j2 : (i : Int) ≤ (cap : Int) := by omega
        have j3 : ¬ cap = g := by omega
        have hsl : ((body.drop g).take (i - g)).length = i - g := by simp; omega
        have CV := hid (conv_sb (((HS.out.on HO.out.2.1).drop g).take (i - g)) (cap - g))
        rw [hsl] at CV
        have RF := hid (fun w' hM => readfield_any ((body.drop g).take (i - g)) w' (by omega) hM)
        have hvl := fieldE_len ((body.drop g).take (i - g))
        rw [hsl] at hvl
        obtain ⟨SS, hSS⟩ : ∃ s, (body.drop g).take (i - g) = s := ⟨_, rfl⟩
        rw [hSS] at CV RF hvl he
        obtain ⟨z, v, ok, hf⟩ : ∃ z v ok, fieldE SS = ((z, v), ok) := ⟨_, _, _, rfl⟩
        rw [hf] at RF hvl he
        simp only at RF hvl he
        have cv := CV.out
        have hvl2 : v.length ≤ 5000 := by omega
        clear hSS hf hc hsl HE hTl
        cases ok with
        | false =>
          rw [if_pos rfl] at he
          subst he
          go_wp2_with (first | (go_at_call 51; refine (RF.out _ (HM.out.on HO.out.2.1)).mono ?_; rintro e w1 ⟨rfl, hb⟩; have HO1 := hid (HO.out.on (btr' hb (ball w1 (.cells #[.int .i64 z, .string ⟨v.toArray⟩] 65)))); have HW1 := hid (show Below wr.heap.size wr w1 from hb); clear hb))
          refine bodyPost_ret (res4 Tryz.f31 2 3 4 5 Tryz.results31 _ _ _ _ _ _ (by rfl) (by rfl) (by rfl) (by rfl)) rfl ?_
          exact ⟨_, rfl, ownT_nilB HO1.out.2.1⟩
        | true =>
          rw [if_neg (by decide)] at he
          by_cases hg0 : g = 0
          · rw [if_pos hg0] at he
            have KO := hid (fun w' => kindof_any z v w' (by omega))
            obtain ⟨k2, e2, hk2⟩ : ∃ k e, kindE (z, v) = (k, e) := ⟨_, _, rfl⟩
            rw [hk2] at KO he
            simp only at KO he
            subst hg0
            simp only [Nat.add_zero, Nat.sub_zero] at cv
            clear hk2
            by_cases he0 : e2 = 0
            · rw [if_neg (by simpa using he0)] at he
              subst he0
              have HE2 := hid he
              clear he
              go_wp2_with (first | (go_at_call 51; refine (RF.out _ (HM.out.on HO.out.2.1)).mono ?_; rintro e w1 ⟨rfl, hb⟩; have HO1 := hid (HO.out.on (btr' hb (ball w1 (.cells #[.int .i64 z, .string ⟨v.toArray⟩] 65)))); have HW1 := hid (show Below wr.heap.size wr w1 from hb); clear hb) | (go_at_call 52; refine (KO.out _).mono ?_; rintro e w2 ⟨rfl, hb⟩; have HO2 := hid (HO1.out.on hb); clear hb))
              go_roundw
              case rel => exact ⟨i + 1, i + 1, k2, l, by omega, Nat.le_refl _, rfl, by go_num, by go_num, hl64, HO2, HE2⟩
              case measure => simp [RowKit.intOf]; omega
            · rw [if_pos he0] at he
              subst he
              have hne : (e2 != 0) = true := by simpa using he0
              clear he0
              go_wp2_with (first | (go_at_call 51; refine (RF.out _ (HM.out.on HO.out.2.1)).mono ?_; rintro e w1 ⟨rfl, hb⟩; have HO1 := hid (HO.out.on (btr' hb (ball w1 (.cells #[.int .i64 z, .string ⟨v.toArray⟩] 65)))); have HW1 := hid (show Below wr.heap.size wr w1 from hb); clear hb) | (go_at_call 52; refine (KO.out _).mono ?_; rintro e w2 ⟨rfl, hb⟩; have HO2 := hid (HO1.out.on hb); clear hb))
              refine bodyPost_ret (res4 Tryz.f31 2 3 4 5 Tryz.results31 _ _ _ _ _ _ (by rfl) (by rfl) (by rfl) (by rfl)) rfl ?_
              exact ⟨_, rfl, ownT_nilB HO2.out.2.1⟩
          · rw [if_neg hg0] at he
            have hgf : ((g : Int) == 0) = false := by simp; omega
            clear hg0
            by_cases h64 : l.length = 64
            · rw [if_pos h64] at he
              subst he
              have g64 : ((l.length : Int) == 64) = true := by simp; omega
              clear h64
              go_wp2_with (first | (go_at_call 51; refine (RF.out _ (HM.out.on HO.out.2.1)).mono ?_; rintro e w1 ⟨rfl, hb⟩; have HO1 := hid (HO.out.on (btr' hb (ball w1 (.cells #[.int .i64 z, .string ⟨v.toArray⟩] 65)))); have HW1 := hid (show Below wr.heap.size wr w1 from hb); clear hb))
              refine bodyPost_ret (res4 Tryz.f31 2 3 4 5 Tryz.results31 _ _ _ _ _ _ (by rfl) (by rfl) (by rfl) (by rfl)) rfl ?_
              exact ⟨_, rfl, ownT_nilB HO1.out.2.1⟩
            · rw [if_neg h64] at he
              have g64 : ((l.length : Int) == 64) = false := by simp; omega
              have hl63 : l.length + 1 ≤ 64 := by omega
              have FT := hid (fun w' hT => fits_any l ql cl z v w' (by omega) (by omega) hT)
              obtain ⟨e2, hk2⟩ : ∃ e, fitsE l (z, v) = e := ⟨_, rfl⟩
              rw [hk2] at FT he
              clear hk2 h64
              by_cases he0 : e2 = 0
              · rw [if_neg (by simpa using he0)] at he
                subst he0
                have HE2 := hid he
                clear he
                go_wp2_with (first | (go_at_call 51; refine (RF.out _ (HM.out.on HO.out.2.1)).mono ?_; rintro e w1 ⟨rfl, hb⟩; have HO1 := hid (HO.out.on (btr' hb (ball w1 (.cells #[.int .i64 z, .string ⟨v.toArray⟩] 65)))); have HW1 := hid (show Below wr.heap.size wr w1 from hb); clear hb) | (go_at_call 53; refine (FT.out _ HO1.out.form').mono ?_; rintro e w2 ⟨rfl, hb⟩; have HO2 := hid (HO1.out.on hb); have b20 := cell_new 0 hb rfl; have b21 := cell_new 1 hb rfl; clear hb) | (at_builtin; refine own_tag (by rfl) (.tmp 35) (.tmp 37) (by rfl) w.heap.size _ l (by rfl) w w2 z v HO2.out (by rfl) (by omega) ?_; intro v3 w3 hO3; have HO3 := hid hO3; clear hO3))
                go_roundw
                case rel => exact ⟨i + 1, i + 1, kind, l ++ [(z, v)], by omega, Nat.le_refl _, rfl, by go_num, by go_num, by simp; omega, HO3, HE2⟩
                case measure => simp [RowKit.intOf]; omega
              · rw [if_pos he0] at he
                subst he
                have hne : (e2 != 0) = true := by simpa using he0
                clear he0
                go_wp2_with (first | (go_at_call 51; refine (RF.out _ (HM.out.on HO.out.2.1)).mono ?_; rintro e w1 ⟨rfl, hb⟩; have HO1 := hid (HO.out.on (btr' hb (ball w1 (.cells #[.int .i64 z, .string ⟨v.toArray⟩] 65)))); have HW1 := hid (show Below wr.heap.size wr w1 from hb); clear hb) | (go_at_call 53; refine (FT.out _ HO1.out.form').mono ?_; rintro e w2 ⟨rfl, hb⟩; have HO2 := hid (HO1.out.on hb); have b20 := cell_new 0 hb rfl; have b21 := cell_new 1 hb rfl; clear hb) | (at_builtin; refine own_tag (by rfl) (.tmp 35) (.tmp 37) (by rfl) w.heap.size _ l (by rfl) w w2 z v HO2.out (by rfl) (by omega) ?_; intro v3 w3 hO3; have HO3 := hid hO3; clear hO3))
                refine bodyPost_ret (res4 Tryz.f31 2 3 4 5 Tryz.results31 _ _ _ _ _ _ (by rfl) (by rfl) (by rfl) (by rfl)) rfl ?_
                exact ⟨_, rfl, ownT_nilB HO3.out.2.1⟩
      · rw [if_pos hc1] at he
        have HE2 := hid he
        have hne : ((c.toNat : Int) != 1) = true := by
          simp
          intro e
          have e2 : c.toNat = 1 := by omega
          exact hc1 (UInt8.toNat_inj.1 (by simpa using e2))
        clear he hc1 hc
        go_wp2
        go_roundw
        case rel => exact ⟨i + 1, g, kind, l, by omega, by omega, rfl, rfl, by go_num, hl64, HO, HE2⟩
        case measure => simp [RowKit.intOf]; omega
    · have he := HE.out
      rw [List.drop_eq_nil_of_le (by omega)] at he
      simp only [bodyR] at he
      subst he
      go_wp2
      refine bodyPost_ret (res4 Tryz.f31 2 3 4 5 Tryz.results31 _ _ _ _ _ _ (by rfl) (by rfl) (by rfl) (by rfl)) rfl ?_
      exact ⟨_, rfl, HO.out⟩
end Go.Proofs.YtjgjoohdocjpkaaGreatDoor
namespace Go.Proofs.YtjgjoohdocjpkaaGreatDoor
open Go.RowKit Go.Deep Go.Lib Go.Shelf Go.Sort
set_option linter.unusedVariables false
theorem OwnT.down {B B0 : Nat} {W1 W0 w : World} {v : Value} {l : List (Int × List UInt8)} (h : OwnT B W0 w v l) (hb : Below B0 W1 W0) (hB : B0 ≤ B) : OwnT B0 W1 w v l := by
  obtain ⟨⟨h1, h2⟩, h3, h4⟩ := h
  refine ⟨⟨h1, ?_⟩, hb.trans (h3.mono hB), Nat.le_trans hB h4⟩
  rcases h2 with h2 | ⟨g, cap, cur, e, hg, r⟩
  · exact Or.inl h2
  · exact Or.inr ⟨g, cap, cur, e, Nat.le_trans hB hg, r⟩
theorem outE_ok {l : List UInt8} {f t p : Nat} (h : outE l = ((f, t), p, 0)) : p = 0 ∧ 11 ≤ f ∧ f < t ∧ t + 7 ≤ 2048 ∧ t + 7 ≤ l.length := by
  unfold outE at h
  split at h
  · rename_i hn; simp only [Prod.mk.injEq] at h; exact absurd h.2.2 hn
  · rename_i hb
    split at h
    · rename_i hn; simp only [Prod.mk.injEq] at h; exact absurd h.2.2 hn
    · rename_i hl
      obtain ⟨h10, _⟩ := begE_ok l 10 0 (by simpa using hb) (Nat.zero_le _)
      obtain ⟨f', t', p', e', he⟩ : ∃ f t p e, lenE l = ((f, t), p, e) := ⟨_, _, _, _, rfl⟩
      rw [he] at h hl
      simp only [ne_eq, Decidable.not_not] at h hl
      subst hl
      obtain ⟨rfl, k1, k2, k3, k4⟩ := lenE_ok he (by omega)
      split at h
      · simp at h
      · rename_i hs
        split at h
        · simp at h
        · rename_i hT
          split at h
          · simp at h
          · simp only [Prod.mk.injEq] at h
            obtain ⟨⟨rfl, rfl⟩, rfl, _⟩ := h
            refine ⟨rfl, k1, ?_, k3, by omega⟩
            rcases Nat.lt_or_ge f' t' with h | h
            · exact h
            · exact absurd (Or.inr (Or.inl (by omega))) hT
theorem bodyR_place (body : List UInt8) : ∀ (r : List UInt8) (i g : Nat) (kind : List UInt8) (l : List (Int × List UInt8)), g ≤ i → (bodyR body r i g kind l).2.2.1 ≤ i + r.length
  | [], i, g, kind, l, h => by simp [bodyR]
  | c :: r, i, g, kind, l, h => by
    have h1 := bodyR_place body r (i + 1) g kind l (by omega)
    have h2 := fun k l => bodyR_place body r (i + 1) (i + 1) k l (by omega)
    have h3 : i + 1 + r.length = i + (c :: r).length := by simp; omega
    rw [h3] at h1 h2
    unfold bodyR
    repeat' split
    all_goals first | exact h1 | exact h2 _ _ | (simp; omega)

/-- what Decode tells. -/
noncomputable def decR (l : List UInt8) : List UInt8 × List (Int × List UInt8) × Nat × Int :=
  if (outE l).2.2 ≠ 0 then ([], [], (outE l).2.1, (outE l).2.2)
  else if (bodyR ((l.drop (outE l).1.1).take ((outE l).1.2 - (outE l).1.1)) ((l.drop (outE l).1.1).take ((outE l).1.2 - (outE l).1.1)) 0 0 [] []).2.2.2 ≠ 0 then
    ([], [], (outE l).1.1 + (bodyR ((l.drop (outE l).1.1).take ((outE l).1.2 - (outE l).1.1)) ((l.drop (outE l).1.1).take ((outE l).1.2 - (outE l).1.1)) 0 0 [] []).2.2.1, (bodyR ((l.drop (outE l).1.1).take ((outE l).1.2 - (outE l).1.1)) ((l.drop (outE l).1.1).take ((outE l).1.2 - (outE l).1.1)) 0 0 [] []).2.2.2)
  else ((bodyR ((l.drop (outE l).1.1).take ((outE l).1.2 - (outE l).1.1)) ((l.drop (outE l).1.1).take ((outE l).1.2 - (outE l).1.1)) 0 0 [] []).1, (bodyR ((l.drop (outE l).1.1).take ((outE l).1.2 - (outE l).1.1)) ((l.drop (outE l).1.1).take ((outE l).1.2 - (outE l).1.1)) 0 0 [] []).2.1, (outE l).1.2 + 7, 0)

set_option maxHeartbeats 4000000 in
set_option maxRecDepth 100000 in
/-- text.Decode. -/
theorem decode_any (l : List UInt8) (q : Option Addr) (cap : Nat) (w : World) (hl : l.length < 4611686018427387904) (hcap : l.length ≤ cap) (hcm : cap < 9223372036854775808) (hS : Sb w q l) (hM : LayM w) :
    Calls Tryz.prog 10 #[.slice q l.length cap] w fun e w' => ∃ v, e = .returned (.tuple #[.string ⟨(decR l).1.toArray⟩, v, .int .i64 ((decR l).2.2.1 : Nat), .int .i64 (decR l).2.2.2]) ∧ OwnT w.heap.size w w' v (decR l).2.1 := by
  have HS := hid hS
  have HM := hid hM
  have OL := hid (outline_any l q cap w hl hcap hcm hS hM.laye)
  obtain ⟨R, hR⟩ : ∃ R, decR l = R := ⟨_, rfl⟩
  rw [hR]
  unfold decR at hR
  obtain ⟨f, t, p, e, ho⟩ : ∃ f t p e, outE l = ((f, t), p, e) := ⟨_, _, _, _, rfl⟩
  rw [ho] at OL hR
  simp only [lenV] at OL
  simp only at hR
  by_cases he : e = 0
  · subst he
    rw [if_neg (by simp)] at hR
    obtain ⟨rfl, k1, k2, k3, k4⟩ := outE_ok ho
    obtain ⟨b, o, rfl, _⟩ := hS 0 (by omega)
    have hBl : ((l.drop f).take (t - f)).length = t - f := by simp; omega
    have RB := hid (fun w' hS hM => readbody_any ((l.drop f).take (t - f)) (some ⟨b, o + f, none⟩) (cap - f) w' (by omega) (by omega) (by omega) hS hM)
    have HSB := hid ((hS.drop f).take (t - f))
    have hpl := bodyR_place ((l.drop f).take (t - f)) ((l.drop f).take (t - f)) 0 0 [] [] (Nat.le_refl _)
    rw [hBl] at RB hpl
    obtain ⟨BD, hBD⟩ : ∃ x, (l.drop f).take (t - f) = x := ⟨_, rfl⟩
    rw [hBD] at RB HSB hR hpl
    obtain ⟨kd, tg, pl, e2, hB⟩ : ∃ a b c d, bodyR BD BD 0 0 [] [] = (a, b, c, d) := ⟨_, _, _, _, rfl⟩
    rw [hB] at RB hR hpl
    simp only at RB hR hpl
    have EN := hid (fun w' => end_any f t w' (by omega))
    have i0 : (0 : Int) ≤ (f : Int) := by omega
    have i1 : (f : Int) ≤ (t : Int) := by omega
    have i2 : (t : Int) ≤ (cap : Int) := by omega
    have i3 : ¬ cap = f := by omega
    have wr1 : IntKind.i64.wrap ((f : Int) + (pl : Int)) = (f : Int) + (pl : Int) := by rw [IntKind.wrap_i64]; omega
    clear ho hBD hB hBl hM hS hcm
    by_cases he2 : e2 = 0
    · subst he2
      rw [if_neg (by simp)] at hR
      subst hR
      go_enter Tryz.func10, Tryz.ntmps10
      go_wp2_with (first | (go_at_call 30; refine OL.out.mono ?_; rintro e w1 ⟨rfl, hb⟩; have HB1 := hid (show Below w.heap.size w w1 from hb); clear hb) | (go_at_call 31; refine (RB.out _ (HSB.out.on (btr' HB1.out (ball _ _))) (HM.out.on (btr' HB1.out (ball _ _)))).mono ?_; rintro e w2 ⟨v2, rfl, ho2⟩; have q20 := cell_new 0 ho2.2.1 rfl; have q21 := cell_new 1 ho2.2.1 rfl; have HO2 := hid (ho2.down (btr' HB1.out (ball _ _)) (btr' HB1.out (ball _ _)).size); clear ho2) | (go_at_call 32; refine (EN.out _).mono ?_; rintro e w3 ⟨rfl, hb⟩; have HO3 := hid (HO2.out.on hb); clear hb))
      refine bodyPost_ret (res4 Tryz.f10 2 3 4 5 Tryz.results10 _ _ _ _ _ _ (by rfl) (by rfl) (by rfl) (by rfl)) rfl ?_
      exact ⟨_, rfl, HO3.out⟩
    · rw [if_pos he2] at hR
      subst hR
      have hne : (e2 != 0) = true := by simpa using he2
      clear he2
      go_enter Tryz.func10, Tryz.ntmps10
      go_wp2_with (first | (go_at_call 30; refine OL.out.mono ?_; rintro e w1 ⟨rfl, hb⟩; have HB1 := hid (show Below w.heap.size w w1 from hb); clear hb) | (go_at_call 31; refine (RB.out _ (HSB.out.on (btr' HB1.out (ball _ _))) (HM.out.on (btr' HB1.out (ball _ _)))).mono ?_; rintro e w2 ⟨v2, rfl, ho2⟩; have q20 := cell_new 0 ho2.2.1 rfl; have q21 := cell_new 1 ho2.2.1 rfl; have HO2 := hid (ho2.down (btr' HB1.out (ball _ _)) (btr' HB1.out (ball _ _)).size); clear ho2))
      go_quiet (fail)
      go_wp2
      refine bodyPost_ret (res4 Tryz.f10 2 3 4 5 Tryz.results10 _ _ _ _ _ _ (by rfl) (by rfl) (by rfl) (by rfl)) rfl ?_
      exact ⟨_, rfl, ownT_nilB (HO2.out.2.1.trans ⟨rfl, rfl, rfl, Nat.le_refl _, fun _ _ => rfl⟩)⟩
  · rw [if_pos he] at hR
    subst hR
    have hne : (e != 0) = true := by simpa using he
    clear he
    go_enter Tryz.func10, Tryz.ntmps10
    go_wp2_with (first | (go_at_call 30; refine OL.out.mono ?_; rintro e w1 ⟨rfl, hb⟩; have HB1 := hid (show Below w.heap.size w w1 from hb); clear hb))
    refine bodyPost_ret (res4 Tryz.f10 2 3 4 5 Tryz.results10 _ _ _ _ _ _ (by rfl) (by rfl) (by rfl) (by rfl)) rfl ?_
    exact ⟨_, rfl, ownT_nilB (btr' HB1.out (ball _ _))⟩
end Go.Proofs.YtjgjoohdocjpkaaGreatDoor
namespace Go.Proofs.YtjgjoohdocjpkaaGreatDoor
open Go.RowKit Go.Deep Go.Lib Go.Shelf Go.Sort
set_option linter.unusedVariables false
theorem run_conv1 (w : World) (b : Nat) (c : UInt8) (h : w.cell? ⟨b, 0, none⟩ = some (.int .u8 (c.toNat : Int))) :
    (convert 22 9 (.slice (some ⟨b, 0, none⟩) 1 1)).run Tryz.prog w = .ok (.string ⟨#[c]⟩) w :=
  run_convert_bytes_back (P := Tryz.prog) w 22 9 5 ⟨b, 0, none⟩ 1 [c] Tryz.underlying22 Tryz.underlying5 Tryz.underlying9 (fun j hj => by
    obtain rfl : j = 0 := by simpa using hj
    rw [Addr.add_mid]
    simpa using h)
theorem cell_newD {w w1 : World} {cs : Array Value} {T : TypeId} (j : Nat) {u : Value} (hb : Below (w.alloc (.cells cs T)).drew.heap.size (w.alloc (.cells cs T)).drew w1) (h : cs[j]? = some u) : w1.cell? ⟨w.heap.size, j, none⟩ = some u :=
  cell_new j (w := w) (cs := cs) (T := T) ⟨hb.os, hb.tape, hb.output, hb.size, hb.block⟩ h
set_option maxRecDepth 100000 in
theorem rdec_small (n : Nat) (h : n < 10) (w : World) :
    Calls Tryz.prog 26 #[.int .u64 n] w fun e w' => e = .returned (.string ⟨(decDigits n).toArray⟩) ∧ Below w.heap.size w w' := by
  rw [decDigits_one h]
  have hc : (UInt8.ofNat (48 + n)).toNat = 48 + n := by simp; omega
  obtain ⟨d, hd⟩ : ∃ d, UInt8.ofNat (48 + n) = d := ⟨_, rfl⟩
  rw [hd] at hc ⊢
  have cv := run_conv1 (w.alloc (.cells #[.int .u8 (48 + (n : Int))] 5)) w.heap.size d (by rw [World.cell?_alloc_new, hc]; simp)
  have hw1 : IntKind.u8.wrap (48 + (n : Int)) = 48 + (n : Int) := by rw [IntKind.wrap_u8]; omega
  clear hc hd
  go_enter Tryz.func26, Tryz.ntmps26
  go_wp2
  go_ret
  exact ⟨rfl, ball _ _⟩
set_option maxHeartbeats 1000000 in
set_option maxRecDepth 100000 in
theorem rdec_big (n : Nat) (h : ¬ n < 10) (hn : n < 18446744073709551616) (w : World)
    (ih : ∀ w, Calls Tryz.prog 26 #[.int .u64 ((n / 10 : Nat) : Int)] w fun e w' => e = .returned (.string ⟨(decDigits (n / 10)).toArray⟩) ∧ Below w.heap.size w w') :
    Calls Tryz.prog 26 #[.int .u64 n] w fun e w' => e = .returned (.string ⟨(decDigits n).toArray⟩) ∧ Below w.heap.size w w' := by
  have hlen := decDigits_length (n / 10)
  have h20 := nDigits_le20 (n / 10) (by omega)
  rw [decDigits, dif_neg h]
  have hc : (UInt8.ofNat (48 + n % 10)).toNat = 48 + n % 10 := by simp; omega
  obtain ⟨d, hd⟩ : ∃ d, UInt8.ofNat (48 + n % 10) = d := ⟨_, rfl⟩
  obtain ⟨D, hD⟩ : ∃ D, decDigits (n / 10) = D := ⟨_, rfl⟩
  rw [hd] at hc ⊢
  rw [hD] at ih hlen ⊢
  have hDl : D.length ≤ 20 := by omega
  have IH := hid ih
  rw [show ((n / 10 : Nat) : Int) = (n : Int) / 10 by omega] at IH
  have h10 : ¬ ((n : Int) < 10) := by omega
  have HDC := hid (show (d.toNat : Int) = 48 + (n : Int) % 10 by rw [hc]; omega)
  have CV := hid (fun (w' : World) (b : Nat) (h : w'.cell? ⟨b, 0, none⟩ = some (.int .u8 (48 + (n : Int) % 10))) => run_conv1 w' b d (by rw [h, HDC.out]))
  have cvA := CV.out (w.alloc (.cells #[.int .u8 (48 + (n : Int) % 10)] 5)).drew w.heap.size (cell_newD 0 (Below.refl _ _) rfl)
  have htm : (n : Int).tmod 10 = (n : Int) % 10 := Int.tmod_eq_emod_of_nonneg (by omega)
  have hwq : IntKind.u64.wrap ((n : Int) / 10) = (n : Int) / 10 := by rw [IntKind.wrap_u64]; omega
  have hwr : IntKind.u64.wrap ((n : Int) % 10) = (n : Int) % 10 := by rw [IntKind.wrap_u64]; omega
  have hw0 : IntKind.u64.wrap (48 + (n : Int) % 10) = 48 + (n : Int) % 10 := by rw [IntKind.wrap_u64]; omega
  have hw1 : IntKind.u8.wrap (48 + (n : Int) % 10) = 48 + (n : Int) % 10 := by rw [IntKind.wrap_u8]; omega
  have hcat : (⟨D.toArray⟩ : ByteArray) ++ ⟨#[d]⟩ = ⟨(D ++ [d]).toArray⟩ := ba_append D [d]
  clear hc hd hD hlen h20 ih h
  go_enter Tryz.func26, Tryz.ntmps26
  go_wp2
  go_region_with (first | (go_at_call 26; refine (IH.out _).mono ?_; rintro e wx ⟨rfl, hbk⟩; have HK := hid (show Below w.heap.size w wx from (by first | exact btr' (Below.drew (Below.refl _ _)) hbk | exact btr' (ball _ _).drew hbk)); (have cvB := CV.out (wx.alloc (.cells #[.int .u8 (48 + (n : Int) % 10)] 5)) wx.heap.size (by rw [World.cell?_alloc_new]; rfl)); (try (have cvC := CV.out wx w.heap.size (cell_newD 0 hbk rfl))); clear hbk))
  all_goals
    go_wp2
    go_ret
    exact ⟨rfl, by first | exact HK.out | exact HK.out.alloc HK.out.size _⟩
theorem rdecimal_any : ∀ (n : Nat), n < 18446744073709551616 → ∀ w, Calls Tryz.prog 26 #[.int .u64 n] w fun e w' => e = .returned (.string ⟨(decDigits n).toArray⟩) ∧ Below w.heap.size w w' := by
  intro n
  induction n using Nat.strongRecOn with
  | _ n ih =>
    intro hn w
    by_cases h : n < 10
    · exact rdec_small n h w
    · exact rdec_big n h hn w (fun w => ih (n / 10) (by omega) (by omega) w)
end Go.Proofs.YtjgjoohdocjpkaaGreatDoor
namespace Go.Proofs.YtjgjoohdocjpkaaGreatDoor
open Go.RowKit Go.Deep Go.Lib Go.Shelf Go.Sort
set_option linter.unusedVariables false
set_option maxHeartbeats 4000000 in
set_option maxRecDepth 100000 in
/-- the document's Kind. -/
theorem rkind_any (l : List UInt8) (w : World) (hl : l.length < 9223372036854775808) :
    Calls Tryz.prog 65 #[.string ⟨l.toArray⟩] w fun e w' => e = .returned (.bool (decide (KindOk l))) ∧ w' = w := by
  go_enter Tryz.func65, Tryz.ntmps65
  go_wp2_with fail
  go_loopw [3] (fun iv wr => ∃ k : Nat, k ≤ l.length ∧ iv = .int .i64 k ∧ wr = w ∧ Hid (∀ c ∈ l.take k, Al c)) (fun iv _ => l.length - (RowKit.intOf iv).toNat)
  case atStart => exact ⟨0, Nat.zero_le _, rfl, rfl, fun x hx => by simp at hx⟩
  case round =>
    obtain ⟨k, hk, rfl, rfl, HN⟩ := hrel
    by_cases hlt : k < l.length
    · obtain ⟨c, hc⟩ : ∃ c, l[k] = c := ⟨_, rfl⟩
      have hx : ∀ h : k < (⟨l.toArray⟩ : ByteArray).size, (⟨l.toArray⟩ : ByteArray)[k] = c := fun h => by rw [ba_at l k hlt h, hc]
      have i0 : (0 : Int) ≤ (k : Int) := by omega
      have i1 : (k : Int) < (l.length : Int) := by omega
      have hc256 : c.toNat < 256 := c.toNat_lt
      have HC := hid hc
      clear hc
      by_cases ha : Al c
      · have HN2 := hid (take_all hlt HN.out (by rw [HC.out]; exact ha))
        rcases ha with ha | ha | ha
        · unfold Dig at ha
          have u1 : (c.toNat : Int) < 65 := by omega
          have u2 : (c.toNat : Int) < 97 := by omega
          have u3 : ¬ ((c.toNat : Int) < 48) := by omega
          have u4 : ¬ ((57 : Int) < (c.toNat : Int)) := by omega
          clear ha
          go_wp2
          go_roundw
          case rel => exact ⟨k + 1, by omega, by go_num, trivial, HN2⟩
          case measure => simp [RowKit.intOf]; omega
        · unfold Up at ha
          have u1 : ¬ ((c.toNat : Int) < 65) := by omega
          have u2 : ¬ ((90 : Int) < (c.toNat : Int)) := by omega
          clear ha
          go_wp2
          go_roundw
          case rel => exact ⟨k + 1, by omega, by go_num, trivial, HN2⟩
          case measure => simp [RowKit.intOf]; omega
        · unfold Lo at ha
          have u1 : ¬ ((c.toNat : Int) < 65) := by omega
          have u2 : (90 : Int) < (c.toNat : Int) := by omega
          have u3 : ¬ ((c.toNat : Int) < 97) := by omega
          have u4 : ¬ ((122 : Int) < (c.toNat : Int)) := by omega
          clear ha
          go_wp2
          go_roundw
          case rel => exact ⟨k + 1, by omega, by go_num, trivial, HN2⟩
          case measure => simp [RowKit.intOf]; omega
      · have HF := hid (show decide (KindOk l) = false from decide_eq_false (fun h => ha (h.2 c (by rw [← HC.out]; exact List.getElem_mem hlt))))
        have h4 : (c.toNat : Int) < 48 ∨ (57 < (c.toNat : Int) ∧ (c.toNat : Int) < 65) ∨ (90 < (c.toNat : Int) ∧ (c.toNat : Int) < 97) ∨ 122 < (c.toNat : Int) := by unfold Al Dig Up Lo at ha; omega
        clear ha
        rcases h4 with h | h | h | h
        · have u1 : (c.toNat : Int) < 65 := by omega
          have u2 : (c.toNat : Int) < 97 := by omega
          go_wp2
          go_ret
          exact ⟨by rw [HF.out]; rfl, rfl⟩
        · obtain ⟨v1, v2⟩ := h
          have u2 : (c.toNat : Int) < 97 := by omega
          have u3 : ¬ ((c.toNat : Int) < 48) := by omega
          go_wp2
          go_ret
          exact ⟨by rw [HF.out]; rfl, rfl⟩
        · obtain ⟨v1, v2⟩ := h
          have u1 : ¬ ((c.toNat : Int) < 65) := by omega
          have u3 : ¬ ((c.toNat : Int) < 48) := by omega
          have u4 : (57 : Int) < (c.toNat : Int) := by omega
          go_wp2
          go_ret
          exact ⟨by rw [HF.out]; rfl, rfl⟩
        · have u1 : ¬ ((c.toNat : Int) < 65) := by omega
          have u2 : (90 : Int) < (c.toNat : Int) := by omega
          have u3 : ¬ ((c.toNat : Int) < 48) := by omega
          have u4 : (57 : Int) < (c.toNat : Int) := by omega
          have u5 : ¬ ((c.toNat : Int) < 97) := by omega
          go_wp2
          go_ret
          exact ⟨by rw [HF.out]; rfl, rfl⟩
    · have hall := HN.out
      rw [List.take_of_length_le (by omega)] at hall
      by_cases h1 : l.length = 1
      · have HF := hid (show decide (KindOk l) = true from decide_eq_true ⟨Or.inl h1, hall⟩)
        have f1 : ((l.length : Int) == 1) = true := by simp; omega
        clear hall h1
        go_wp2
        go_ret
        exact ⟨by rw [HF.out]; rfl, rfl⟩
      · have f1 : ((l.length : Int) == 1) = false := by simp; omega
        by_cases h2 : l.length = 2
        · have HF := hid (show decide (KindOk l) = true from decide_eq_true ⟨Or.inr h2, hall⟩)
          have f2 : ((l.length : Int) == 2) = true := by simp; omega
          clear hall h1 h2
          go_wp2
          go_ret
          exact ⟨by rw [HF.out]; rfl, rfl⟩
        · have HF := hid (show decide (KindOk l) = false from decide_eq_false (fun h => by rcases h.1 with h | h; exact h1 h; exact h2 h))
          have f2 : ((l.length : Int) == 2) = false := by simp; omega
          clear hall h1 h2
          go_wp2
          go_ret
          exact ⟨by rw [HF.out]; rfl, rfl⟩

set_option maxHeartbeats 4000000 in
set_option maxRecDepth 100000 in
/-- the document's isValue. -/
theorem risvalue_any (l : List UInt8) (w : World) (hl : l.length < 9223372036854775808) :
    Calls Tryz.prog 68 #[.string ⟨l.toArray⟩] w fun e w' => e = .returned (.bool (decide (ValOk l))) ∧ w' = w := by
  go_enter Tryz.func68, Tryz.ntmps68
  go_wp2_with fail
  go_loopw [3] (fun iv wr => ∃ k : Nat, k ≤ l.length ∧ iv = .int .i64 k ∧ wr = w ∧ Hid (∀ c ∈ l.take k, Pr c)) (fun iv _ => l.length - (RowKit.intOf iv).toNat)
  case atStart => exact ⟨0, Nat.zero_le _, rfl, rfl, fun x hx => by simp at hx⟩
  case round =>
    obtain ⟨k, hk, rfl, rfl, HN⟩ := hrel
    by_cases hlt : k < l.length
    · obtain ⟨c, hc⟩ : ∃ c, l[k] = c := ⟨_, rfl⟩
      have hx : ∀ h : k < (⟨l.toArray⟩ : ByteArray).size, (⟨l.toArray⟩ : ByteArray)[k] = c := fun h => by rw [ba_at l k hlt h, hc]
      have i0 : (0 : Int) ≤ (k : Int) := by omega
      have i1 : (k : Int) < (l.length : Int) := by omega
      have hc256 : c.toNat < 256 := c.toNat_lt
      have HC := hid hc
      clear hc
      by_cases hp : Pr c
      · have HN2 := hid (take_all hlt HN.out (by rw [HC.out]; exact hp))
        unfold Pr at hp
        have u1 : ¬ ((c.toNat : Int) < 32) := by omega
        have u2 : ¬ ((126 : Int) < (c.toNat : Int)) := by omega
        clear hp
        go_wp2
        go_roundw
        case rel => exact ⟨k + 1, by omega, by go_num, trivial, HN2⟩
        case measure => simp [RowKit.intOf]; omega
      · have HF := hid (show decide (ValOk l) = false from decide_eq_false (fun h => hp (h.2 c (by rw [← HC.out]; exact List.getElem_mem hlt))))
        unfold Pr at hp
        by_cases u1 : (c.toNat : Int) < 32
        · clear hp
          go_wp2
          go_ret
          exact ⟨by rw [HF.out]; rfl, rfl⟩
        · have u2 : (126 : Int) < (c.toNat : Int) := by omega
          clear hp
          go_wp2
          go_ret
          exact ⟨by rw [HF.out]; rfl, rfl⟩
    · have hall := HN.out
      rw [List.take_of_length_le (by omega)] at hall
      have HF := hid (show decide (ValOk l) = decide ((1 : Int) ≤ (l.length : Int)) from decide_eq_decide.2 ⟨fun h => by have := h.1; cases l; exact absurd rfl this; simp; omega, fun h => ⟨fun e => by rw [e] at h; simp at h, hall⟩⟩)
      clear hall
      go_wp2
      go_ret
      exact ⟨by rw [HF.out]; rfl, rfl⟩

set_option maxHeartbeats 4000000 in
set_option maxRecDepth 100000 in
/-- the document's isTag. -/
theorem istag_any (t : Int) (w : World) :
    Calls Tryz.prog 66 #[.int .i64 t] w fun e w' => e = .returned (.bool (decide (TagOk t))) ∧ w' = w := by
  by_cases u1 : 1 ≤ t
  · by_cases u2 : t ≤ 9999
    · by_cases u3 : t = 8
      · subst u3
        go_enter Tryz.func66, Tryz.ntmps66
        go_wp2
        go_ret
        exact ⟨rfl, rfl⟩
      · by_cases u4 : t = 9
        · subst u4
          go_enter Tryz.func66, Tryz.ntmps66
          go_wp2
          go_ret
          exact ⟨rfl, rfl⟩
        · by_cases u5 : t = 10
          · subst u5
            go_enter Tryz.func66, Tryz.ntmps66
            go_wp2
            go_ret
            exact ⟨rfl, rfl⟩
          · by_cases u6 : t = 35
            · subst u6
              go_enter Tryz.func66, Tryz.ntmps66
              go_wp2
              go_ret
              exact ⟨rfl, rfl⟩
            · rw [decide_eq_true (show TagOk t from ⟨u1, u2, u3, u4, u5, u6⟩)]
              have v3 : (t != 8) = true := by simpa using u3
              have v4 : (t != 9) = true := by simpa using u4
              have v5 : (t != 10) = true := by simpa using u5
              have v6 : (t != 35) = true := by simpa using u6
              clear u3 u4 u5 u6
              go_enter Tryz.func66, Tryz.ntmps66
              go_wp2
              go_ret
              exact ⟨rfl, rfl⟩
    · rw [decide_eq_false (show ¬ TagOk t from fun h => u2 h.2.1)]
      go_enter Tryz.func66, Tryz.ntmps66
      go_wp2
      go_ret
      exact ⟨rfl, rfl⟩
  · rw [decide_eq_false (show ¬ TagOk t from fun h => u1 h.1)]
    go_enter Tryz.func66, Tryz.ntmps66
    go_wp2
    go_ret
    exact ⟨rfl, rfl⟩

set_option maxHeartbeats 2000000 in
set_option maxRecDepth 100000 in
/-- the document's there. -/
theorem there_any (l : List (Int × List UInt8)) (q : Option Addr) (cap : Nat) (tag : Int) (w : World) (hl : l.length < 9223372036854775808) (hT : Ts w q l) :
    Calls Tryz.prog 67 #[.slice q l.length cap, .int .i64 tag] w fun e w' => e = .returned (.bool (val? l tag).isSome) ∧ w' = w := by
  have HT := hid hT
  clear hT
  go_enter Tryz.func67, Tryz.ntmps67
  go_wp2_with fail
  go_loopw [5] (fun iv wr => ∃ k : Nat, k ≤ l.length ∧ iv = .int .i64 k ∧ wr = w ∧ Hid (∀ x ∈ l.take k, x.1 ≠ tag)) (fun iv _ => l.length - (RowKit.intOf iv).toNat)
  case atStart => exact ⟨0, Nat.zero_le _, rfl, rfl, fun x hx => by simp at hx⟩
  case round =>
    obtain ⟨k, hk, rfl, rfl, HN⟩ := hrel
    by_cases hlt : k < l.length
    · obtain ⟨b, o, rfl, h0, h1⟩ := HT.out k hlt
      have i0 : (0 : Int) ≤ (k : Int) := by omega
      have i1 : (k : Int) < (l.length : Int) := by omega
      obtain ⟨z, s, hz⟩ : ∃ z s, l[k] = (z, s) := ⟨_, _, rfl⟩
      rw [hz] at h0 h1
      simp only at h0 h1
      by_cases ht : z = tag
      · have HV := hid (val_at k hlt HN.out (by rw [hz]; exact ht))
        clear hz
        subst ht
        go_wp2
        go_ret
        exact ⟨by rw [HV.out]; rfl, rfl⟩
      · have HN2 := hid (show ∀ x ∈ l.take (k + 1), x.1 ≠ tag by
          rw [List.take_succ_eq_append_getElem hlt, hz]
          intro x hx
          rcases List.mem_append.1 hx with hx | hx
          · exact HN.out x hx
          · obtain rfl := List.mem_singleton.1 hx; exact ht)
        clear hz
        go_wp2
        go_roundw
        case rel => exact ⟨k + 1, by omega, by go_num, trivial, HN2⟩
        case measure => simp [RowKit.intOf]; omega
    · have HV := hid (val_none (by have := HN.out; rwa [List.take_of_length_le (by omega)] at this))
      go_wp2
      go_ret
      exact ⟨by rw [HV.out]; rfl, rfl⟩

set_option maxHeartbeats 2000000 in
set_option maxRecDepth 100000 in
/-- the document's field. -/
theorem field_any (t : Nat) (v : List UInt8) (w : World) (ht : t < 10000) (hv : v.length ≤ 140737488355328) :
    Calls Tryz.prog 69 #[.int .i64 t, .string ⟨v.toArray⟩] w fun e w' => e = .returned (.string ⟨(fieldB (t, v)).toArray⟩) ∧ Below w.heap.size w w' := by
  have DC := hid (rdecimal_any t (by omega) w)
  have hlen := decDigits_length t
  have hn5 : nDigits t ≤ 20 := nDigits_le20 t (by omega)
  have HF := hid (show fieldB (t, v) = ((decDigits t ++ [61]) ++ v) ++ [1] by unfold fieldB; simp)
  obtain ⟨D, hD⟩ : ∃ D, decDigits t = D := ⟨_, rfl⟩
  rw [hD] at DC hlen HF
  rw [← hlen] at hn5
  have hwt : IntKind.u64.wrap (t : Int) = (t : Int) := by rw [IntKind.wrap_u64]; omega
  have c1 : (⟨D.toArray⟩ : ByteArray) ++ ⟨#[61]⟩ = ⟨(D ++ [61]).toArray⟩ := ba_append D [61]
  have c2 : (⟨(D ++ [61]).toArray⟩ : ByteArray) ++ ⟨v.toArray⟩ = ⟨((D ++ [61]) ++ v).toArray⟩ := ba_append _ _
  have c3 : (⟨((D ++ [61]) ++ v).toArray⟩ : ByteArray) ++ ⟨#[1]⟩ = ⟨(((D ++ [61]) ++ v) ++ [1]).toArray⟩ := ba_append _ [1]
  have C1 := hid c1
  have C2 := hid c2
  have C3 := hid c3
  clear hlen hD c1 c2 c3
  go_enter Tryz.func69, Tryz.ntmps69
  go_wp2_with (go_at_call 26; refine DC.out.mono ?_; rintro e w1 ⟨rfl, hb⟩)
  go_ret
  refine ⟨?_, hb⟩
  rw [HF.out, ← C3.out, ← C2.out, ← C1.out]
  rfl

theorem three_plain (n : Nat) (hn : n < 256) : (decDigits (1000 + n)).drop 1 = [UInt8.ofNat (48 + n / 100), UInt8.ofNat (48 + n / 10 % 10), UInt8.ofNat (48 + n % 10)] := by
  have e3 : decDigits (1000 + n) = decDigits ((1000 + n) / 10) ++ [UInt8.ofNat (48 + (1000 + n) % 10)] := by rw [decDigits, dif_neg (by omega)]
  have e2 : decDigits ((1000 + n) / 10) = decDigits ((1000 + n) / 10 / 10) ++ [UInt8.ofNat (48 + (1000 + n) / 10 % 10)] := by rw [decDigits, dif_neg (by omega)]
  have e1 : decDigits ((1000 + n) / 10 / 10) = [UInt8.ofNat (48 + (1000 + n) / 10 / 10 / 10), UInt8.ofNat (48 + (1000 + n) / 10 / 10 % 10)] := decDigits_two (by omega) (by omega)
  rw [e3, e2, e1, show (1000 + n) / 10 / 10 % 10 = n / 100 by omega, show (1000 + n) / 10 % 10 = n / 10 % 10 by omega, show (1000 + n) % 10 = n % 10 by omega]
  rfl
theorem run_conv3 (w : World) (b : Nat) (c0 c1 c2 : UInt8) (h0 : w.cell? ⟨b, 0, none⟩ = some (.int .u8 (c0.toNat : Int))) (h1 : w.cell? ⟨b, 1, none⟩ = some (.int .u8 (c1.toNat : Int))) (h2 : w.cell? ⟨b, 2, none⟩ = some (.int .u8 (c2.toNat : Int))) :
    (convert 22 9 (.slice (some ⟨b, 0, none⟩) 3 3)).run Tryz.prog w = .ok (.string ⟨#[c0, c1, c2]⟩) w :=
  run_convert_bytes_back (P := Tryz.prog) w 22 9 5 ⟨b, 0, none⟩ 3 [c0, c1, c2] Tryz.underlying22 Tryz.underlying5 Tryz.underlying9 (fun j hj => by
    rw [Addr.add_mid]
    match j, hj with
    | 0, _ => simpa using h0
    | 1, _ => simpa using h1
    | 2, _ => simpa using h2)
set_option maxHeartbeats 2000000 in
set_option maxRecDepth 100000 in
/-- the document's three. -/
theorem three_any (n : Nat) (w : World) (hn : n < 256) :
    Calls Tryz.prog 61 #[.int .i64 n] w fun e w' => e = .returned (.string ⟨((decDigits (1000 + n)).drop 1).toArray⟩) ∧ Below w.heap.size w w' := by
  rw [three_plain n hn]
  have k0 : (UInt8.ofNat (48 + n / 100)).toNat = 48 + n / 100 := by simp; omega
  have k1 : (UInt8.ofNat (48 + n / 10 % 10)).toNat = 48 + n / 10 % 10 := by simp; omega
  have k2 : (UInt8.ofNat (48 + n % 10)).toNat = 48 + n % 10 := by simp; omega
  obtain ⟨d0, hd0⟩ : ∃ d, UInt8.ofNat (48 + n / 100) = d := ⟨_, rfl⟩
  obtain ⟨d1, hd1⟩ : ∃ d, UInt8.ofNat (48 + n / 10 % 10) = d := ⟨_, rfl⟩
  obtain ⟨d2, hd2⟩ : ∃ d, UInt8.ofNat (48 + n % 10) = d := ⟨_, rfl⟩
  rw [hd0] at k0 ⊢
  rw [hd1] at k1 ⊢
  rw [hd2] at k2 ⊢
  have cv := run_conv3 (w.alloc (.cells #[.int .u8 (48 + (n : Int) / 100), .int .u8 (48 + (n : Int) / 10 % 10), .int .u8 (48 + (n : Int) % 10)] 5)) w.heap.size d0 d1 d2 (by rw [World.cell?_alloc_new, k0]; simp) (by rw [World.cell?_alloc_new, k1]; simp) (by rw [World.cell?_alloc_new, k2]; simp)
  have w0 : IntKind.u8.wrap (48 + (n : Int) / 100) = 48 + (n : Int) / 100 := by rw [IntKind.wrap_u8]; omega
  have w1 : IntKind.u8.wrap (48 + (n : Int) / 10 % 10) = 48 + (n : Int) / 10 % 10 := by rw [IntKind.wrap_u8]; omega
  have w2 : IntKind.u8.wrap (48 + (n : Int) % 10) = 48 + (n : Int) % 10 := by rw [IntKind.wrap_u8]; omega
  clear k0 k1 k2 hd0 hd1 hd2
  go_enter Tryz.func61, Tryz.ntmps61
  go_wp2
  go_ret
  exact ⟨rfl, ball _ _⟩
end Go.Proofs.YtjgjoohdocjpkaaGreatDoor
namespace Go.Proofs.YtjgjoohdocjpkaaGreatDoor
open Go.RowKit Go.Deep Go.Lib Go.Shelf Go.Sort
set_option linter.unusedVariables false
theorem index_at : ∀ (ds v : List UInt8), (61 : UInt8) ∉ ds → Lib.index (ds ++ 61 :: v) [61] = (ds.length : Int)
  | [], v, _ => by simp [Lib.index]
  | d :: ds, v, h => by
    have h1 : ((61 : UInt8) == d) = false := by
      simp only [beq_eq_false_iff_ne, ne_eq]
      exact fun e => h (e ▸ List.mem_cons_self)
    have h2 := index_at ds v (fun hm => h (List.mem_cons_of_mem _ hm))
    rw [List.cons_append]
    unfold Lib.index
    rw [h2]
    have h3 : ((ds.length : Int) == -1) = false := by
      simp only [beq_eq_false_iff_ne, ne_eq]
      omega
    simp [List.isPrefixOf, h1, h3]
theorem cut_at (ds v : List UInt8) (h : (61 : UInt8) ∉ ds) : Lib.cut (ds ++ 61 :: v) [61] = (ds, v, true) := by
  unfold Lib.cut
  rw [index_at ds v h, if_pos (by omega)]
  simp
theorem nd_up (k : Nat) (h : ∀ n, n < 10 ^ k → nDigits n ≤ k) (hk : 1 ≤ k) : ∀ n, n < 10 ^ (k + 1) → nDigits n ≤ k + 1 := by
  intro n hn
  rw [Nat.pow_succ] at hn
  unfold nDigits
  split
  · omega
  · have := h (n / 10) (by omega)
    omega
theorem dec_four' (n : Nat) (h : n < 10000) : (decDigits n).length ≤ 4 := by
  rw [decDigits_length]
  have h1 : ∀ n, n < 10 ^ 1 → nDigits n ≤ 1 := fun n hn => by unfold nDigits; split <;> omega
  exact nd_up 3 (nd_up 2 (nd_up 1 h1 (by decide)) (by decide)) (by decide) n (by omega)
end Go.Proofs.YtjgjoohdocjpkaaGreatDoor
namespace Go.Proofs.YtjgjoohdocjpkaaGreatDoor
open Go.RowKit Go.Deep Go.Lib Go.Shelf Go.Sort
set_option linter.unusedVariables false
theorem outE_trail {l : List UInt8} {f t p : Nat} (h : outE l = ((f, t), p, 0)) : (l.drop t).take 7 = trailB (l.take t) := by
  unfold outE at h
  split at h
  · rename_i hn; simp only [Prod.mk.injEq] at h; exact absurd h.2.2 hn
  · split at h
    · rename_i hn; simp only [Prod.mk.injEq] at h; exact absurd h.2.2 hn
    · split at h
      · simp at h
      · split at h
        · simp at h
        · split at h
          · simp at h
          · rename_i hT
            simp only [Prod.mk.injEq] at h
            rw [h.1] at hT
            simpa using hT
end Go.Proofs.YtjgjoohdocjpkaaGreatDoor
namespace Go.Proofs.YtjgjoohdocjpkaaGreatDoor
open Go.RowKit Go.Deep Go.Lib Go.Shelf Go.Sort
set_option linter.unusedVariables false
theorem fieldE_inv {s : List UInt8} {x : Int × List UInt8} (h : fieldE s = (x, true)) : s = decDigits x.1.toNat ++ 61 :: x.2 := by
  unfold fieldE at h
  split at h
  · cases h
  · rename_i hc
    simp only [Prod.mk.injEq] at h
    obtain ⟨hx, hn⟩ := h
    obtain ⟨k, hk⟩ := Option.isSome_iff_exists.1 hn
    rw [hk] at hx
    obtain ⟨hd, _⟩ := num_some _ _ hk
    rw [← hx]
    simp only [Option.getD_some, Int.toNat_natCast]
    rw [hd]
    unfold Lib.cut at hc ⊢
    split
    · rcases Lib.index_spec s [61] with ⟨hm, _⟩ | ⟨i, hi, hl, ho, _⟩
      · rename_i h0; omega
      · rw [hi]
        simp only [Int.toNat_natCast, List.length_cons, List.length_nil, Nat.zero_add]
        unfold Lib.occAt at ho
        obtain ⟨z, hz⟩ := List.isPrefixOf_iff_prefix.1 ho
        have e1 : s.drop (i + 1) = z := by rw [← List.drop_drop, ← hz]; simp
        rw [e1]
        conv => lhs; rw [← List.take_append_drop i s, ← hz]
        simp
    · rename_i h0
      rw [if_neg h0] at hc
      simp at hc
/-- the fields behind the first one, turned back. -/
theorem bodyR_back (body kind : List UInt8) : ∀ (r cur pre : List UInt8) (a : List (Int × List UInt8)) (K : List UInt8) (L : List (Int × List UInt8)) (p : Nat), body = pre ++ (cur ++ r) → 0 < pre.length → (1 : UInt8) ∉ cur → (cur ++ r = [] ∨ (cur ++ r).getLast? = some 1) → a.length ≤ 64 → bodyR body r (pre.length + cur.length) pre.length kind a = (K, L, p, 0) →
    K = kind ∧ ∃ m, L = a ++ m ∧ cur ++ r = m.flatMap fieldB ∧ firstE a m = 0 ∧ a.length + m.length ≤ 64
  | [], cur, pre, a, K, L, p, hb, hp, h1, hlast, ha, h => by
    have hc : cur = [] := by
      rcases hlast with h | h
      · simpa using h
      · simp only [List.append_nil] at h
        exact absurd (List.mem_of_getLast? h) h1
    subst hc
    simp only [bodyR, Prod.mk.injEq] at h
    obtain ⟨rfl, rfl, _⟩ := h
    exact ⟨rfl, [], by simp, by simp, rfl, by simpa using ha⟩
  | c :: r, cur, pre, a, K, L, p, hb, hp, h1, hlast, ha, h => by
    simp only [bodyR] at h
    by_cases hc : c = 1
    · subst hc
      have hcut : (body.drop pre.length).take (pre.length + cur.length - pre.length) = cur := by
        rw [hb, List.drop_left' rfl, show pre.length + cur.length - pre.length = cur.length by omega, List.take_left' rfl]
      rw [if_neg (by simp), hcut] at h
      obtain ⟨x, ok, hf⟩ : ∃ x ok, fieldE cur = (x, ok) := ⟨_, _, rfl⟩
      rw [hf] at h
      simp only at h
      split at h
      · simp at h
      · rename_i hok
        have hok' : ok = true := by simpa using hok
        subst hok'
        rw [if_neg (by omega)] at h
        split at h
        · simp at h
        · rename_i h64
          split at h
          · rename_i hft
            simp only [Prod.mk.injEq] at h
            exact absurd h.2.2.2 hft
          · rename_i hft
            have hft' : fitsE a x = 0 := by simpa using hft
            have e : pre.length + cur.length + 1 = (pre ++ cur ++ [1]).length := by simp; omega
            have hl2 : ([] : List UInt8) ++ r = [] ∨ (([] : List UInt8) ++ r).getLast? = some 1 := by
              cases r with
              | nil => exact Or.inl rfl
              | cons d r =>
                refine Or.inr ?_
                rcases hlast with h | h
                · simp at h
                · simpa [List.getLast?_append] using h
            rw [e] at h
            obtain ⟨hK, m, hL, hm, hf2, hl3⟩ := bodyR_back body kind r [] (pre ++ cur ++ [1]) (a ++ [x]) K L p (by rw [hb]; simp) (by simp; omega) (by simp) hl2 (by simp; omega) (by simpa using h)
            refine ⟨hK, x :: m, by rw [hL]; simp, ?_, ?_, by simp at hl3 ⊢; omega⟩
            · rw [fieldE_inv hf, List.flatMap_cons, ← hm]
              simp [fieldB]
            · unfold firstE
              rw [if_pos hft', hf2]
    · rw [if_pos hc] at h
      obtain ⟨hK, m, hL, hm, hf2, hl3⟩ := bodyR_back body kind r (cur ++ [c]) pre a K L p (by rw [hb]; simp) hp (by simp; exact ⟨h1, fun e => hc e.symm⟩) (by simpa using hlast) ha (by rw [List.length_append, List.length_cons, List.length_nil, Nat.zero_add, ← Nat.add_assoc]; exact h)
      exact ⟨hK, m, hL, by rw [← hm]; simp, hf2, hl3⟩
end Go.Proofs.YtjgjoohdocjpkaaGreatDoor
