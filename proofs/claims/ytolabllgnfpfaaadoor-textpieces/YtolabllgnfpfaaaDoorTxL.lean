/-
  text.Encode.
-/
import Derived.Test.YtolabllgnfpfaaaDoorTxK
namespace Go.Proofs.YtolabllgnfpfaaaDoor
open Go.RowKit Go.Deep Go.Lib Go.Shelf Go.Sort
set_option linter.unusedVariables false

def headB (n : Nat) : List UInt8 := [56, 61, 66, 82, 83, 46, 49, 1, 57, 61] ++ decDigits n
def bodyB (kind : List UInt8) (l : List (Int × List UInt8)) : List UInt8 := fieldB (35, kind) ++ l.flatMap fieldB
def aheadB (kind : List UInt8) (l : List (Int × List UInt8)) : List UInt8 := headB (bodyB kind l).length ++ [1] ++ bodyB kind l
def lineB (kind : List UInt8) (l : List (Int × List UInt8)) : List UInt8 := aheadB kind l ++ trailB (aheadB kind l)
/-- the first field that can't stand. -/
def firstE : List (Int × List UInt8) → List (Int × List UInt8) → Int
  | _, [] => 0
  | a, x :: r => if fitsE a x = 0 then firstE (a ++ [x]) r else fitsE a x
def encE (kind : List UInt8) (l : List (Int × List UInt8)) : Int :=
  if ¬ KindOk kind then 3 else if 64 < l.length then 2 else if firstE [] l = 0 then (if 2048 < (lineB kind l).length then 2 else 0) else firstE [] l
def encB (kind : List UInt8) (l : List (Int × List UInt8)) : List UInt8 := if encE kind l = 0 then lineB kind l else []
theorem own_nil (w : World) : Own w.heap.size w w (.slice none 0 0) [] := ⟨World.ownsRow_nil _ _ _ _, Below.refl _ _, Nat.le_refl _⟩
theorem own_nilB {w w' : World} (h : Below w.heap.size w w') : Own w.heap.size w w' (.slice none 0 0) [] := ⟨World.ownsRow_nil _ _ _ _, h, h.size⟩
theorem firstE_drop {l : List (Int × List UInt8)} (k : Nat) (hk : k < l.length) : firstE (l.take k) (l.drop k) = if fitsE (l.take k) l[k] = 0 then firstE (l.take (k + 1)) (l.drop (k + 1)) else fitsE (l.take k) l[k] := by
  rw [List.drop_eq_getElem_cons hk, firstE, List.take_succ_eq_append_getElem hk]
theorem fits_tag {a : List (Int × List UInt8)} {x : Int × List UInt8} (h : fitsE a x = 0) : TagOk x.1 ∧ ValOk x.2 := by
  unfold fitsE at h
  split at h
  · cases h
  · rename_i h1
    split at h
    · cases h
    · split at h
      · cases h
      · rename_i h3
        exact ⟨by simpa using h1, by simpa using h3⟩
theorem flat_take {l : List (Int × List UInt8)} {k : Nat} (hk : k < l.length) : (l.take (k + 1)).flatMap fieldB = (l.take k).flatMap fieldB ++ fieldB l[k] := by
  rw [List.take_succ_eq_append_getElem hk, List.flatMap_append]; simp

theorem trailB_len (l : List UInt8) : (trailB l).length = 7 := by
  unfold trailB
  have hlt := sumB_lt l
  have h4 : nDigits (1000 + sumB l) = 4 := nDigits_unique 3 _ (by omega) (by omega)
  simp [decDigits_length, h4]
theorem ba_append (a b : List UInt8) : (⟨a.toArray⟩ : ByteArray) ++ ⟨b.toArray⟩ = ⟨(a ++ b).toArray⟩ := by
  apply ByteArray.ext
  simp [ByteArray.data_append]
theorem aheadB_len (kind : List UInt8) (l : List (Int × List UInt8)) : (aheadB kind l).length = 10 + nDigits (bodyB kind l).length + 1 + (bodyB kind l).length := by
  unfold aheadB headB; simp [decDigits_length]; omega
theorem lineB_len (kind : List UInt8) (l : List (Int × List UInt8)) : (lineB kind l).length = 10 + nDigits (bodyB kind l).length + 1 + (bodyB kind l).length + 7 := by
  unfold lineB; rw [List.length_append, trailB_len, aheadB_len]

theorem own_make (c : Nat) (z : Int) (hz : z = (c : Int)) (hc : c ≤ 281474976710656) {B : Nat} {W0 w : World} (hb : Below B W0 w) (hB : B ≤ w.heap.size) :
    ∃ w', (Instr.makeSlice 26 (.int .i64 0) (.int .i64 z)).run Tryd.prog w = .ok (.slice (some ⟨w.heap.size, 0, none⟩) 0 c) w' ∧ Own B W0 w' (.slice (some ⟨w.heap.size, 0, none⟩) 0 c) [] ∧ Kx w w' := by
  subst hz
  obtain ⟨i0, hi, hz0, hz1, hz2⟩ := info_parts info5all
  obtain ⟨w', h1, h2, h3⟩ := run_make_own (P := Tryd.prog) w B 26 5 i0 (.int .u8 0) 1 Tryd.underlying26 hi hz0 hz1 .i64 .i64 c (by rw [hz2]; omega) (by unfold maxLen; omega) hB
  have hbb : Below w.heap.size w w' := (Below.refl _ _).grown h3 (Nat.le_refl _) (fun k hk => by cases hk)
  exact ⟨w', h1, ⟨h2, hb.trans (hbb.mono hB), Nat.le_trans hB h3.size⟩, Kx.of hbb⟩

set_option maxHeartbeats 4000000 in
set_option maxRecDepth 100000 in
/-- text.Encode. -/
theorem encode_any (kind : List UInt8) (l : List (Int × List UInt8)) (q : Option Addr) (cap : Nat) (w : World) (hk : kind.length ≤ 140737488355328) (hs : ∀ x ∈ l, x.2.length ≤ 140737488355328) (hl : l.length < 9223372036854775808) (hcap : l.length ≤ cap) (hcm : cap < 9223372036854775808) (hT : Ts w q l) (hL : Lay w) :
    Calls Tryd.prog 16 #[.string ⟨kind.toArray⟩, .slice q l.length cap] w fun e w' => ∃ v, e = .returned (.tuple #[v, .int .i64 (encE kind l)]) ∧ Own w.heap.size w w' v (encB kind l) ∧ (encE kind l ≠ 0 → v = .slice none 0 0) := by
  have HT := hid hT
  have HL := hid hL
  have HSz := hid hs
  have IK := hid (iskind_any kind w (by omega))
  clear hT hL hs
  by_cases hkd : KindOk kind
  · rw [decide_eq_true hkd] at IK
    by_cases h64 : 64 < l.length
    · have e : encE kind l = 2 := by unfold encE; rw [if_neg (by simpa using hkd), if_pos h64]
      have e2 : encB kind l = [] := by unfold encB; rw [e]; rfl
      rw [e, e2]
      clear e e2
      have h64' : (64 : Int) < (l.length : Int) := by omega
      go_enter Tryd.func16, Tryd.ntmps16
      go_wp2_with (go_at_call 23; refine IK.out.mono ?_; rintro e w1 ⟨rfl, rfl⟩)
      go_ret2
      exact ⟨_, rfl, own_nil _, fun _ => rfl⟩
    · have h64' : ¬ ((64 : Int) < (l.length : Int)) := by omega
      have E1 := hid (show encE kind l = if firstE [] l = 0 then (if 2048 < (lineB kind l).length then 2 else 0) else firstE [] l by unfold encE; rw [if_neg (by simpa using hkd), if_neg h64])
      have hk2 : kind.length ≤ 2 := by have := hkd.1; omega
      have FS0 := hid (fun w1 hL => fieldsize_any 35 kind w1 (by omega) (by omega) hL)
      have hf0 : (fieldB (35, kind)).length ≤ 40 := by
        rw [fieldB_len]
        have : nDigits 35 = 2 := nDigits_unique 1 35 (by decide) (by decide)
        simp; omega
      obtain ⟨f0, hf0e⟩ : ∃ n, (fieldB (35, kind)).length = n := ⟨_, rfl⟩
      rw [show ((35 : Nat) : Int) = 35 from rfl, hf0e] at FS0
      rw [hf0e] at hf0
      have A0 := hid (ball w (.cells #[.int .i64 35, .string ⟨kind.toArray⟩] 64))
      have BX0 := hid (bx_new w 35 kind)
      have HLA := hid (HL.out.alloc (.cells #[.int .i64 35, .string ⟨kind.toArray⟩] 64))
      have hf0E := hid hf0e
      have HKD := hid hkd
      have H64 := hid h64
      clear hf0e hkd h64
      go_enter Tryd.func16, Tryd.ntmps16
      go_wp2_with (first | (go_at_call 23; refine IK.out.mono ?_; rintro e w ⟨rfl, rfl⟩) | (go_at_call 24; refine (FS0.out _ HLA.out).mono ?_; rintro e w2 ⟨rfl, hb⟩; have HB2 := hid (btr' A0.out hb); have BX2 := hid (BX0.out.on hb); clear hb))
      go_loopw [7, 30] (fun szv iv wr => ∃ k sz : Nat, k ≤ l.length ∧ iv = .int .i64 k ∧ szv = .int .i64 sz ∧ sz ≤ 40 + k * 140737488355400 ∧ Hid (sz = f0 + ((l.take k).flatMap fieldB).length) ∧ Hid (firstE [] l = firstE (l.take k) (l.drop k)) ∧ Hid (Below w.heap.size w wr) ∧ Hid (Bx wr w.heap.size 35 kind) ∧ Hid (∀ x ∈ l.take k, TagOk x.1 ∧ ValOk x.2)) (fun _ iv _ => l.length - (RowKit.intOf iv).toNat)
      case atStart => exact ⟨0, f0, Nat.zero_le _, rfl, rfl, by omega, hid (by simp), hid (by simp), HB2, BX2, fun x hx => by simp at hx⟩
      case round =>
        obtain ⟨k, sz, hk, rfl, rfl, hsz, HSZ, HFI, HB, HBX, HOK⟩ := hrel
        by_cases hlt : k < l.length
        · obtain ⟨b, o, rfl, h0, h1⟩ := (HT.out.on HB.out) k hlt
          have hbb := cell_lt h0
          have i0 : (0 : Int) ≤ (k : Int) := by omega
          have i1 : (k : Int) < (l.length : Int) := by omega
          have i2 : (k : Int) ≤ (cap : Int) := by omega
          obtain ⟨z, s, hz⟩ : ∃ z s, l[k] = (z, s) := ⟨_, _, rfl⟩
          have hsl : s.length ≤ 140737488355328 := HSz.out (z, s) (by rw [← hz]; exact List.getElem_mem hlt)
          have HFD := hid (firstE_drop k hlt)
          have HFT := hid (flat_take hlt)
          rw [hz] at h0 h1 HFD HFT
          simp only at h0 h1 hbb
          have hlk : (l.take k).length = k := by simp; omega
          have FT := hid (fun w' hT => fits_any (l.take k) (some ⟨b, o, none⟩) cap z s w' (by omega) (by omega) hT)
          rw [hlk] at FT
          obtain ⟨W, hW⟩ : ∃ W, wr.alloc (.cells #[.int .i64 z, .string ⟨s.toArray⟩] 64) = W := ⟨_, rfl⟩
          have AB := hid (show Below wr.heap.size wr W from hW ▸ ball wr (.cells #[.int .i64 z, .string ⟨s.toArray⟩] 64))
          have ABX := hid (show Bx W wr.heap.size z s from hW ▸ bx_new wr z s)
          have keep : ∀ w', Below W.heap.size W w' → (w'.cell? ⟨wr.heap.size, 0, none⟩ = some (.int .i64 z) ∧ w'.cell? ⟨wr.heap.size, 1, none⟩ = some (.string ⟨s.toArray⟩)) ∧ Below W.heap.size W w' := by
            intro w' hb
            exact ⟨(ABX.out.on hb).cell, hb⟩
          have KEEP := hid keep
          clear keep hlk hbb
          go_wp2
          (try rw [hW])
          clear hW
          obtain ⟨F, hF⟩ : ∃ F, fitsE (l.take k) (z, s) = F := ⟨_, rfl⟩
          rw [hF] at FT
          have HTW := hid (fun w' (hb : Below W.heap.size W w') => ts_take (HT.out.on (btr' HB.out (btr' AB.out hb))) k)
          by_cases hF0 : F = 0
          · subst hF0
            have HFI2 := hid (show firstE [] l = firstE (l.take (k + 1)) (l.drop (k + 1)) by rw [HFI.out, HFD.out, if_pos hF])
            obtain ⟨tk, vk⟩ := fits_tag hF
            simp only at tk vk
            have HOK2 := hid (show ∀ x ∈ l.take (k + 1), TagOk x.1 ∧ ValOk x.2 by
              rw [List.take_succ_eq_append_getElem hlt, hz]
              intro x hx
              rcases List.mem_append.1 hx with hx | hx
              · exact HOK.out x hx
              · obtain rfl := List.mem_singleton.1 hx; exact ⟨tk, vk⟩)
            obtain ⟨zn, rfl⟩ : ∃ zn : Nat, z = (zn : Int) := ⟨z.toNat, by have := tk.1; omega⟩
            have hzn : zn < 10000 := by have := tk.2.1; omega
            have FS := hid (fun w' hL => fieldsize_any zn s w' hzn (by omega) hL)
            have hfl : (fieldB ((zn : Int), s)).length ≤ 140737488355400 := by
              rw [fieldB_len]
              have := nDigits_le20 zn (by omega)
              simp; omega
            have HSZ2 := hid (show sz + (fieldB ((zn : Int), s)).length = f0 + ((l.take (k + 1)).flatMap fieldB).length by rw [HFT.out, List.length_append, HSZ.out]; omega)
            obtain ⟨fl, hfle⟩ : ∃ n, (fieldB ((zn : Int), s)).length = n := ⟨_, rfl⟩
            rw [hfle] at FS hfl HSZ2
            clear hfle hF hz tk vk HFD HFT
            go_region_held3 (fun w' => (w'.cell? ⟨wr.heap.size, 0, none⟩ = some (.int .i64 (zn : Int)) ∧ w'.cell? ⟨wr.heap.size, 1, none⟩ = some (.string ⟨s.toArray⟩)) ∧ Below W.heap.size W w')
              (first | exact KEEP.out _ (Below.drew (Below.refl _ _)) | exact KEEP.out _ HK.out)
              (first
              | (go_at_call 25; refine (FT.out _ (by first | exact HTW.out _ (Below.drew (Below.refl _ _)) | exact HTW.out _ HK.out)).mono ?_; rintro e wx ⟨rfl, hbk⟩; have HK := hid (show Below W.heap.size W wx from (by first | exact btr' HK.out hbk | exact btr' (Below.drew (Below.refl _ _)) hbk)); clear hbk))
            all_goals
              have hcc := (ABX.out.on HK.out).cell
              obtain ⟨hcc0, hcc1⟩ := hcc
              have HBW := hid (btr' HB.out (btr' AB.out HK.out))
              have BXW := hid (HBX.out.on (btr' AB.out HK.out))
              go_wp2_with (go_at_call 24; refine (FS.out _ (HL.out.on HBW.out)).mono ?_; rintro e wy ⟨rfl, hb⟩; have HBY := hid (btr' HBW.out hb); have BXY := hid (BXW.out.on hb); clear hb)
              go_roundw
              case rel => exact ⟨k + 1, sz + fl, by omega, by go_num, by first | rfl | (congr 1; omega), by omega, HSZ2, HFI2, HBY, BXY, HOK2⟩
              case measure => simp [RowKit.intOf]; omega
          · have hFE := hid (show firstE [] l = F by rw [HFI.out, HFD.out, if_neg (by rw [hF]; exact hF0), hF])
            have HE := hid (show encE kind l = F by rw [E1.out, hFE.out, if_neg hF0])
            have HE2 := hid (show encB kind l = [] by unfold encB; rw [HE.out, if_neg hF0])
            have hne : (F != 0) = true := by simpa using hF0
            clear hF hz HFD HFT hF0
            go_region_held3 (fun w' => (w'.cell? ⟨wr.heap.size, 0, none⟩ = some (.int .i64 z) ∧ w'.cell? ⟨wr.heap.size, 1, none⟩ = some (.string ⟨s.toArray⟩)) ∧ Below W.heap.size W w')
              (first | exact KEEP.out _ (Below.drew (Below.refl _ _)) | exact KEEP.out _ HK.out)
              (first
              | (go_at_call 25; refine (FT.out _ (by first | exact HTW.out _ (Below.drew (Below.refl _ _)) | exact HTW.out _ HK.out)).mono ?_; rintro e wx ⟨rfl, hbk⟩; have HK := hid (show Below W.heap.size W wx from (by first | exact btr' HK.out hbk | exact btr' (Below.drew (Below.refl _ _)) hbk)); clear hbk))
            all_goals
              go_wp2
              go_ret2
              rw [HE.out, HE2.out]
              exact ⟨_, rfl, own_nilB (btr' HB.out (btr' AB.out HK.out)), fun _ => rfl⟩
        · have hkl : k = l.length := by omega
          have HZ := hid (show sz = (bodyB kind l).length by
            have h := HSZ.out
            rw [List.take_of_length_le (by omega)] at h
            unfold bodyB
            rw [List.length_append, hf0E.out]; exact h)
          have HE0 := hid (show firstE [] l = 0 by
            have h := HFI.out
            rw [List.take_of_length_le (by omega), List.drop_eq_nil_of_le (by omega)] at h
            rw [h, firstE])
          have HOK2 := hid (show ∀ x ∈ l, TagOk x.1 ∧ ValOk x.2 by
            have h := HOK.out
            rwa [List.take_of_length_le (by omega)] at h)
          have hszb : sz ≤ 9007199254750000 := by omega
          have DC := hid (decimal_any sz (by omega) wr (HL.out.on HB.out))
          have LL := hid (lineB_len kind l)
          have hd20 : nDigits sz ≤ 20 := nDigits_le20 sz (by omega)
          have hdl := decDigits_length sz
          have AH := hid (show aheadB kind l = headB sz ++ [1] ++ (fieldB (35, kind) ++ l.flatMap fieldB) by unfold aheadB; rw [← HZ.out]; rfl)
          have hcat : (⟨#[56, 61, 66, 82, 83, 46, 49, 1, 57, 61]⟩ : ByteArray) ++ ⟨(decDigits sz).toArray⟩ = ⟨(headB sz).toArray⟩ := ba_append [56, 61, 66, 82, 83, 46, 49, 1, 57, 61] (decDigits sz)
          have hhl : (headB sz).length = 10 + nDigits sz := by unfold headB; simp [hdl]; omega
          rw [← HZ.out] at LL
          obtain ⟨nd, hnd⟩ : ∃ nd, nDigits sz = nd := ⟨_, rfl⟩
          obtain ⟨HH, hHH⟩ : ∃ H, headB sz = H := ⟨_, rfl⟩
          obtain ⟨D, hD⟩ : ∃ D, decDigits sz = D := ⟨_, rfl⟩
          rw [hnd] at LL hd20 hhl
          rw [hHH] at hcat hhl AH
          rw [hD] at DC hcat hdl
          have hDle : D.length ≤ 20 := by omega
          have hsz : (⟨HH.toArray⟩ : ByteArray).size = 10 + nd := by simp [ByteArray.size, hhl]
          clear HSZ HFI HOK hdl hnd hHH hD hkl
          by_cases hbig : 2048 < 10 + nd + 1 + sz + 7
          · have HE := hid (show encE kind l = 2 by rw [E1.out, if_pos HE0.out, if_pos (by rw [LL.out]; exact hbig)])
            have HE2 := hid (show encB kind l = [] by unfold encB; rw [HE.out]; rfl)
            have hb2 : (2048 : Int) < 10 + (nd : Int) + 1 + (sz : Int) + 7 := by omega
            go_wp2_with (go_at_call 26; refine DC.out.mono ?_; rintro e wx ⟨rfl, hbk⟩)
            go_ret2
            rw [HE.out, HE2.out]
            exact ⟨_, rfl, own_nilB (btr' HB.out hbk), fun _ => rfl⟩
          · have HE := hid (show encE kind l = 0 by rw [E1.out, if_pos HE0.out, if_neg (by rw [LL.out]; exact hbig)])
            have HE2 := hid (show encB kind l = lineB kind l by unfold encB; rw [HE.out]; rfl)
            have hb2 : ¬ ((2048 : Int) < 10 + (nd : Int) + 1 + (sz : Int) + 7) := by omega
            have hszs : sz ≤ 2048 := by omega
            have AF0 := hid (fun sv l w hO hv hL => appendfield_any w.heap.size w sv l 35 kind w (by omega) hv hO hL)
            have AFX := hid (fun (wz : World) sv l' hO (hv : l'.length + kind.length ≤ 140737488355000) hL => appendfield_any w.heap.size w sv l' 35 kind wz (by omega) hv hO hL)
            rw [show ((35 : Nat) : Int) = 35 from rfl] at AFX
            clear AF0
            go_wp2_with (first | (go_at_call 26; refine DC.out.mono ?_; rintro e wx ⟨rfl, hbk⟩; obtain ⟨wm, hmk, hOm, hKm⟩ := own_make (10 + nd + 1 + sz + 7) (10 + (nd : Int) + 1 + (sz : Int) + 7) (by omega) (by omega) (btr' HB.out hbk) (btr' HB.out hbk).size; have OM := hid hOm; have HBX1 := hid (hKm _ _ _ (HBX.out.on hbk)); clear hbk hOm hKm) | (at_builtin; refine own_text (by rfl) (.tmp 62) (.tmp 63) (by rfl) w.heap.size _ [] (by rfl) w OM.out HH (by rfl) (by simp; omega) ?_; intro v2 w2 hO2 hK2; have O2 := hid hO2; have B2 := hid (hK2 _ _ _ HBX1.out); clear hO2 hK2) | (at_builtin; refine own_byte (by rfl) (.tmp 65) (.tmp 66) (by rfl) w.heap.size v2 _ (by rfl) w w2 1 1 (by decide) O2.out (by rfl) (by simp; omega) ?_; intro v3 w3 hO3 hK3; have O3 := hid hO3; obtain ⟨hc30, hc31⟩ := (hK3 _ _ _ B2.out).cell; clear hO3 hK3) | (go_at_call 27; refine (AFX.out _ _ _ O3.out (by simp; omega) (HL.out.on O3.out.2.1)).mono ?_; rintro e w4 ⟨v4, rfl, hO4, hK4⟩; have O4 := hid hO4; clear hO4 hK4))
            have HFL := hid (show (l.flatMap fieldB).length ≤ 2048 by
              have h := HZ.out
              unfold bodyB at h
              rw [List.length_append] at h
              omega)
            have HHL := hid hhl
            clear hmk hcat hhl hsz hc30 hc31
            go_loopw [13, 73] (fun bv iv wr => ∃ k : Nat, k ≤ l.length ∧ iv = .int .i64 k ∧ Hid (Own w.heap.size w wr bv ([] ++ HH ++ [1] ++ fieldB (35, kind) ++ (l.take k).flatMap fieldB))) (fun _ iv _ => l.length - (RowKit.intOf iv).toNat)
            case atStart => exact ⟨0, Nat.zero_le _, rfl, hid (by simpa using O4.out)⟩
            case round =>
              obtain ⟨j, hj, rfl, HO⟩ := hrel
              by_cases hjl : j < l.length
              · obtain ⟨b, o, rfl, h0, h1⟩ := (HT.out.on HO.out.2.1) j hjl
                have i0 : (0 : Int) ≤ (j : Int) := by omega
                have i1 : (j : Int) < (l.length : Int) := by omega
                obtain ⟨z, s, hz⟩ : ∃ z s, l[j] = (z, s) := ⟨_, _, rfl⟩
                have HFT := hid (flat_take hjl)
                have hok := HOK2.out l[j] (List.getElem_mem hjl)
                rw [hz] at h0 h1 HFT hok
                simp only at h0 h1 hok
                obtain ⟨zn, rfl⟩ : ∃ zn : Nat, z = (zn : Int) := ⟨z.toNat, by have := hok.1.1; omega⟩
                have hzn : zn < 10000 := by have := hok.1.2.1; omega
                have hle : ((l.take (j + 1)).flatMap fieldB).length ≤ 2048 := by
                  refine Nat.le_trans ?_ HFL.out
                  conv => rhs; rw [← List.take_append_drop (j + 1) l, List.flatMap_append, List.length_append]
                  omega
                have hsum : ((l.take j).flatMap fieldB).length + s.length ≤ 2048 := by
                  rw [HFT.out, List.length_append, fieldB_len] at hle
                  simp only at hle
                  omega
                have AF := hid (fun wz sv l' hO (hv : l'.length + s.length ≤ 140737488355000) hL => appendfield_any w.heap.size w sv l' zn s wz hzn hv hO hL)
                have HOA := hid (HO.out.on (ball wr (.cells #[.int .i64 (zn : Int), .string ⟨s.toArray⟩] 64)))
                have HHl := hid (show HH.length ≤ 30 by have := HHL.out; omega)
                have hPX : ([] ++ HH ++ [1] ++ fieldB (35, kind) ++ (l.take j).flatMap fieldB).length + s.length ≤ 140737488355000 := by
                  simp only [List.length_append, List.length_nil, List.length_cons, hf0E.out]
                  have := HHl.out
                  omega
                have HPX := hid hPX
                clear hz hok hle hsum hPX
                go_wp2_with (go_at_call 27; refine (AF.out _ _ _ HOA.out HPX.out (HL.out.on HOA.out.2.1)).mono ?_; rintro e wy ⟨vy, rfl, hOy, hKy⟩; have OY := hid hOy; clear hOy hKy)
                go_roundw
                case rel => exact ⟨j + 1, by omega, by go_num, hid (by rw [HFT.out, ← List.append_assoc]; exact OY.out)⟩
                case measure => simp [RowKit.intOf]; omega
              · have HOA := hid (show Own w.heap.size w wr _ (aheadB kind l) by
                  have h := HO.out
                  rw [List.take_of_length_le (by omega)] at h
                  rw [AH.out]
                  simpa using h)
                obtain ⟨q', cap', rfl, hSb⟩ := HOA.out.form
                have hal : (aheadB kind l).length ≤ 2048 := by
                  have h := LL.out
                  unfold lineB at h
                  rw [List.length_append, trailB_len] at h
                  omega
                have TR := hid (trail_any (aheadB kind l) q' cap' wr (by omega) hSb (HL.out.on HOA.out.2.1))
                have LB := hid (show lineB kind l = aheadB kind l ++ trailB (aheadB kind l) from rfl)
                have htl := trailB_len (aheadB kind l)
                obtain ⟨AA, hAA⟩ : ∃ A, aheadB kind l = A := ⟨_, rfl⟩
                obtain ⟨TT, hTT⟩ : ∃ T, trailB (aheadB kind l) = T := ⟨_, rfl⟩
                rw [hTT] at TR LB htl
                rw [hAA] at TR LB HOA hal
                have hlA : (aheadB kind l).length = AA.length := by rw [hAA]
                rw [hlA]
                clear HO hSb hAA hTT hlA
                go_wp2_with (first | (go_at_call 28; refine TR.out.mono ?_; rintro e wy ⟨rfl, hb⟩; have OY := hid (HOA.out.on hb); clear hb) | (at_builtin; refine own_text (by rfl) (.tmp 81) (.tmp 83) (by rfl) w.heap.size _ AA (by rfl) w OY.out TT (by rfl) (by omega) ?_; intro vz wz hOz hKz; have OZ := hid hOz; clear hOz hKz))
                go_ret2
                rw [HE.out, HE2.out, LB.out]
                exact ⟨_, rfl, OZ.out, fun h => absurd rfl h⟩
  · have e : encE kind l = 3 := by unfold encE; rw [if_pos (by simpa using hkd)]
    have e2 : encB kind l = [] := by unfold encB; rw [e]; rfl
    rw [e, e2]
    rw [decide_eq_false hkd] at IK
    clear e e2
    go_enter Tryd.func16, Tryd.ntmps16
    go_wp2_with (go_at_call 23; refine IK.out.mono ?_; rintro e w1 ⟨rfl, rfl⟩)
    go_ret2
    exact ⟨_, rfl, own_nil _, fun _ => rfl⟩
end Go.Proofs.YtolabllgnfpfaaaDoor
