/-
  The document's Encode.
-/
import Derived.Test.YtcokggeodbipjaaDoorTxS
import Derived.BigQuiet
import Derived.Deep.QuietTactic
namespace Go.Proofs.YtcokggeodbipjaaDoor
open Go.RowKit Go.Deep Go.Lib Go.Shelf Go.Sort
set_option linter.unusedVariables false

/-- a slice of bytes as an answer. -/
def Ans (w w' : World) (v : Value) (l : List UInt8) : Prop := ∃ q cap, v = .slice q l.length cap ∧ Sb w' q l ∧ (∀ a, q = some a → w.heap.size ≤ a.block) ∧ Below w.heap.size w w'
theorem ans_nil {w w' : World} (h : Below w.heap.size w w') : Ans w w' (.slice none 0 0) [] := ⟨none, 0, rfl, (fun i hi => by simp at hi), (fun a ha => by cases ha), h⟩

theorem sb_bytes (w : World) (l : List UInt8) : Sb (bytesWorld w 5 ⟨l.toArray⟩) (some ⟨w.heap.size, 0, none⟩) l := by
  intro i hi
  refine ⟨w.heap.size, 0, rfl, ?_⟩
  rw [Nat.zero_add, bytesWorld_cell w 5 ⟨l.toArray⟩ i (by simpa [ByteArray.size] using hi)]
  simp [List.getD, hi]
theorem run_cat (a b : List UInt8) (h : a.length + b.length ≤ 4611686018427387904) (w : World) : (binOp .add 9 (.string ⟨a.toArray⟩) (.string ⟨b.toArray⟩)).run Tryd.prog w = .ok (.string ⟨(a ++ b).toArray⟩) w := by
  have h1 : (⟨a.toArray⟩ : ByteArray) ++ ⟨b.toArray⟩ = ⟨(a ++ b).toArray⟩ := ba_append a b
  have u := Tryd.underlying9
  go_simp
  omega

set_option maxHeartbeats 4000000 in
set_option maxRecDepth 100000 in
/-- the document's Encode. -/
theorem rencode_any (kind : List UInt8) (l : List (Int × List UInt8)) (q : Option Addr) (cap : Nat) (w : World) (hk : kind.length ≤ 140737488355328) (hs : ∀ x ∈ l, x.2.length ≤ 140737488355328) (hl : l.length < 9223372036854775808) (hcap : l.length ≤ cap) (hcm : cap < 9223372036854775808) (hT : Ts w q l) :
    Calls Tryd.prog 16 #[.string ⟨kind.toArray⟩, .slice q l.length cap] w fun e w' => ∃ v, e = .returned (.tuple #[v, .int .i64 (encE kind l)]) ∧ Ans w w' v (encB kind l) := by
  have HT := hid hT
  have HSz := hid hs
  have IK := hid (rkind_any kind w (by omega))
  clear hT hs
  by_cases hkd : KindOk kind
  · rw [decide_eq_true hkd] at IK
    by_cases h64 : 64 < l.length
    · have e : encE kind l = 2 := by unfold encE; rw [if_neg (by simpa using hkd), if_pos h64]
      have e2 : encB kind l = [] := by unfold encB; rw [e]; rfl
      rw [e, e2]
      clear e e2
      have h64' : (64 : Int) < (l.length : Int) := by omega
      go_enter Tryd.func16, Tryd.ntmps16
      go_wp2_with (go_at_call 34; refine IK.out.mono ?_; rintro e w1 ⟨rfl, rfl⟩)
      go_ret2
      exact ⟨_, rfl, ans_nil (Below.refl _ _)⟩
    · have h64' : ¬ ((64 : Int) < (l.length : Int)) := by omega
      have E1 := hid (show encE kind l = if firstE [] l = 0 then (if 2048 < (lineB kind l).length then 2 else 0) else firstE [] l by unfold encE; rw [if_neg (by simpa using hkd), if_neg h64])
      have hk2 : kind.length ≤ 2 := by have := hkd.1; omega
      have HKD := hid hkd
      have H64 := hid h64
      clear hkd h64
      go_enter Tryd.func16, Tryd.ntmps16
      go_wp2_with (first | (go_at_call 34; refine IK.out.mono ?_; rintro e w ⟨rfl, rfl⟩))
      go_loopw [6] (fun iv wr => ∃ k : Nat, k ≤ l.length ∧ iv = .int .i64 k ∧ Hid (firstE [] l = firstE (l.take k) (l.drop k)) ∧ Hid (Below w.heap.size w wr) ∧ Hid (∀ x ∈ l.take k, TagOk x.1 ∧ ValOk x.2)) (fun iv _ => l.length - (RowKit.intOf iv).toNat)
      case atStart => exact ⟨0, Nat.zero_le _, rfl, hid (by simp), Below.refl _ _, fun x hx => by simp at hx⟩
      case round =>
        obtain ⟨k, hk, rfl, HFI, HB, HOK⟩ := hrel
        by_cases hlt : k < l.length
        · obtain ⟨b, o, rfl, h0, h1⟩ := (HT.out.on HB.out) k hlt
          have i0 : (0 : Int) ≤ (k : Int) := by omega
          have i1 : (k : Int) < (l.length : Int) := by omega
          have i2 : (k : Int) ≤ (cap : Int) := by omega
          obtain ⟨z, s, hz⟩ : ∃ z s, l[k] = (z, s) := ⟨_, _, rfl⟩
          have hsl : s.length ≤ 140737488355328 := HSz.out (z, s) (by rw [← hz]; exact List.getElem_mem hlt)
          have HFD := hid (firstE_drop k hlt)
          rw [hz] at h0 h1 HFD
          simp only at h0 h1
          have hlk : (l.take k).length = k := by simp; omega
          have H0 := hid h0
          have H1 := hid h1
          have keep : ∀ w', Below wr.heap.size wr w' → w'.cell? ⟨b, o + k * 2, none⟩ = some (.int .i64 z) ∧ Below wr.heap.size wr w' := by
            intro w' hb
            exact ⟨by rw [hb.cell (cell_lt H0.out)]; exact H0.out, hb⟩
          have KEEP := hid keep
          have keep1 := hid (fun w' (hb : Below wr.heap.size wr w') => show w'.cell? ⟨b, o + k * 2 + 1, none⟩ = some (.string ⟨s.toArray⟩) by rw [hb.cell (cell_lt H1.out)]; exact H1.out)
          have IT := hid (fun w' => istag_any z w')
          have TH := hid (fun w' hT => there_any (l.take k) (some ⟨b, o, none⟩) cap z w' (by omega) hT)
          have HTW := hid (fun w' (hb : Below wr.heap.size wr w') => ts_take (HT.out.on (btr' HB.out hb)) k)
          rw [hlk] at TH
          clear keep hlk h1
          by_cases ht : TagOk z
          · rw [decide_eq_true ht] at IT
            cases hss : (val? (l.take k) z).isSome with
            | true =>
              rw [hss] at TH
              have hF : fitsE (l.take k) (z, s) = 30 := by unfold fitsE; rw [if_neg (by simpa using ht), if_pos hss]
              have HE := hid (show encE kind l = 30 by rw [E1.out, HFI.out, HFD.out, hF]; rfl)
              have HE2 := hid (show encB kind l = [] by unfold encB; rw [HE.out]; rfl)
              clear hF ht hss hz
              go_wp2
              go_region_held3 (fun w' => w'.cell? ⟨b, o + k * 2, none⟩ = some (.int .i64 z) ∧ Below wr.heap.size wr w')
                (first | exact KEEP.out _ (Below.drew (Below.refl _ _)) | exact KEEP.out _ HK.out)
                (first
                | (go_at_call 35; refine (IT.out _).mono ?_; rintro e wx ⟨rfl, hw⟩; have HK := hid (show Below wr.heap.size wr wx from (by rw [hw]; first | exact HK.out | exact Below.drew (Below.refl _ _))); clear hw)
                | (go_at_call 36; refine (TH.out _ (by first | exact HTW.out _ HK.out | exact HTW.out _ (Below.drew (Below.refl _ _)))).mono ?_; rintro e wx ⟨rfl, hw⟩; have HK := hid (show Below wr.heap.size wr wx from (by rw [hw]; first | exact HK.out | exact Below.drew (Below.refl _ _))); clear hw))
              all_goals
                go_wp2
                go_ret2
                rw [HE.out, HE2.out]
                exact ⟨_, rfl, ans_nil (btr' HB.out HK.out)⟩
            | false =>
              rw [hss] at TH
              have IV := hid (fun w' => risvalue_any s w' (by omega))
              by_cases hv : ValOk s
              · rw [decide_eq_true hv] at IV
                have hF : fitsE (l.take k) (z, s) = 0 := by unfold fitsE; rw [if_neg (by simpa using ht), if_neg (by rw [hss]; decide), if_neg (by simpa using hv)]
                have HFI2 := hid (show firstE [] l = firstE (l.take (k + 1)) (l.drop (k + 1)) by rw [HFI.out, HFD.out, if_pos hF])
                have HOK2 := hid (show ∀ x ∈ l.take (k + 1), TagOk x.1 ∧ ValOk x.2 by
                  rw [List.take_succ_eq_append_getElem hlt, hz]
                  intro x hx
                  rcases List.mem_append.1 hx with hx | hx
                  · exact HOK.out x hx
                  · obtain rfl := List.mem_singleton.1 hx; exact ⟨ht, hv⟩)
                clear hF ht hss hz hv
                go_wp2
                go_region_held3 (fun w' => w'.cell? ⟨b, o + k * 2, none⟩ = some (.int .i64 z) ∧ Below wr.heap.size wr w')
                (first | exact KEEP.out _ (Below.drew (Below.refl _ _)) | exact KEEP.out _ HK.out)
                (first
                | (go_at_call 35; refine (IT.out _).mono ?_; rintro e wx ⟨rfl, hw⟩; have HK := hid (show Below wr.heap.size wr wx from (by rw [hw]; first | exact HK.out | exact Below.drew (Below.refl _ _))); clear hw)
                | (go_at_call 36; refine (TH.out _ (by first | exact HTW.out _ HK.out | exact HTW.out _ (Below.drew (Below.refl _ _)))).mono ?_; rintro e wx ⟨rfl, hw⟩; have HK := hid (show Below wr.heap.size wr wx from (by rw [hw]; first | exact HK.out | exact Below.drew (Below.refl _ _))); clear hw))
                all_goals
                  have hcc := keep1.out _ HK.out
                  go_wp2_with (go_at_call 37; refine (IV.out _).mono ?_; rintro e wy ⟨rfl, rfl⟩)
                  go_roundw
                  case rel => exact ⟨k + 1, by omega, by go_num, HFI2, hid (btr' HB.out HK.out), HOK2⟩
                  case measure => simp [RowKit.intOf]; omega
              · rw [decide_eq_false hv] at IV
                have hF : fitsE (l.take k) (z, s) = 31 := by unfold fitsE; rw [if_neg (by simpa using ht), if_neg (by rw [hss]; decide), if_pos (by simpa using hv)]
                have HE := hid (show encE kind l = 31 by rw [E1.out, HFI.out, HFD.out, hF]; rfl)
                have HE2 := hid (show encB kind l = [] by unfold encB; rw [HE.out]; rfl)
                clear hF ht hss hz hv
                go_wp2
                go_region_held3 (fun w' => w'.cell? ⟨b, o + k * 2, none⟩ = some (.int .i64 z) ∧ Below wr.heap.size wr w')
                (first | exact KEEP.out _ (Below.drew (Below.refl _ _)) | exact KEEP.out _ HK.out)
                (first
                | (go_at_call 35; refine (IT.out _).mono ?_; rintro e wx ⟨rfl, hw⟩; have HK := hid (show Below wr.heap.size wr wx from (by rw [hw]; first | exact HK.out | exact Below.drew (Below.refl _ _))); clear hw)
                | (go_at_call 36; refine (TH.out _ (by first | exact HTW.out _ HK.out | exact HTW.out _ (Below.drew (Below.refl _ _)))).mono ?_; rintro e wx ⟨rfl, hw⟩; have HK := hid (show Below wr.heap.size wr wx from (by rw [hw]; first | exact HK.out | exact Below.drew (Below.refl _ _))); clear hw))
                all_goals
                  have hcc := keep1.out _ HK.out
                  go_wp2_with (go_at_call 37; refine (IV.out _).mono ?_; rintro e wy ⟨rfl, rfl⟩)
                  go_ret2
                  rw [HE.out, HE2.out]
                  exact ⟨_, rfl, ans_nil (btr' HB.out HK.out)⟩
          · rw [decide_eq_false ht] at IT
            have hF : fitsE (l.take k) (z, s) = 30 := by unfold fitsE; rw [if_pos (by simpa using ht)]
            have HE := hid (show encE kind l = 30 by rw [E1.out, HFI.out, HFD.out, hF]; rfl)
            have HE2 := hid (show encB kind l = [] by unfold encB; rw [HE.out]; rfl)
            clear hF ht hz
            go_wp2
            go_quiet (first | (go_at_call 35; refine Calls.quiet_of_same (IT.out _)))
            go_wp2
            go_ret2
            rw [HE.out, HE2.out]
            exact ⟨_, rfl, ans_nil (btr' HB.out ⟨rfl, rfl, rfl, Nat.le_refl _, fun _ _ => rfl⟩)⟩
        · have HE0 := hid (show firstE [] l = 0 by
            have h := HFI.out
            rw [List.take_of_length_le (by omega), List.drop_eq_nil_of_le (by omega)] at h
            rw [h, firstE])
          have HOK2 := hid (show ∀ x ∈ l, TagOk x.1 ∧ ValOk x.2 by
            have h := HOK.out
            rwa [List.take_of_length_le (by omega)] at h)
          have FD0 := hid (field_any 35 kind wr (by omega) (by omega))
          rw [show ((35 : Nat) : Int) = 35 from rfl] at FD0
          have hf0 : (fieldB (35, kind)).length ≤ 40 := by
            rw [fieldB_len]
            have : nDigits 35 = 2 := nDigits_unique 1 35 (by decide) (by decide)
            simp; omega
          obtain ⟨P0, hP0⟩ : ∃ P, fieldB (35, kind) = P := ⟨_, rfl⟩
          rw [hP0] at FD0 hf0
          have HP0 := hid hP0
          clear hP0 HFI HOK
          go_wp2_with (go_at_call 38; refine FD0.out.mono ?_; rintro e wx ⟨rfl, hb⟩; have HBX := hid (btr' HB.out hb); clear hb)
          go_loopw [7, 8] (fun bv iv wr => ∃ (k : Nat) (BB : List UInt8), k ≤ l.length ∧ iv = .int .i64 k ∧ bv = .string ⟨BB.toArray⟩ ∧ BB.length ≤ 4200 ∧ Hid (BB = P0 ++ (l.take k).flatMap fieldB) ∧ Hid (Below w.heap.size w wr)) (fun _ iv _ => l.length - (RowKit.intOf iv).toNat)
          case atStart => exact ⟨0, P0, Nat.zero_le _, rfl, rfl, by omega, hid (by simp), HBX⟩
          case round =>
            obtain ⟨j, BB, hj, rfl, rfl, hBB, HBB, HBj⟩ := hrel
            by_cases hjl : j < l.length
            · obtain ⟨b, o, rfl, h0, h1⟩ := (HT.out.on HBj.out) j hjl
              have i0 : (0 : Int) ≤ (j : Int) := by omega
              have i1 : (j : Int) < (l.length : Int) := by omega
              obtain ⟨z, s, hz⟩ : ∃ z s, l[j] = (z, s) := ⟨_, _, rfl⟩
              have hsl : s.length ≤ 140737488355328 := HSz.out (z, s) (by rw [← hz]; exact List.getElem_mem hjl)
              have HFT := hid (flat_take hjl)
              have hok := HOK2.out l[j] (List.getElem_mem hjl)
              rw [hz] at h0 h1 HFT hok
              simp only at h0 h1 hok
              by_cases hbig : 2048 < BB.length + s.length
              · have HE := hid (show encE kind l = 2 by
                  rw [E1.out, if_pos HE0.out, if_pos]
                  rw [lineB_len]
                  have h2 : BB.length + s.length ≤ (bodyB kind l).length := by
                    unfold bodyB
                    conv => rhs; rw [← List.take_append_drop (j + 1) l, List.flatMap_append, HFT.out, HP0.out]
                    rw [HBB.out]
                    simp only [List.length_append, fieldB_len]
                    omega
                  omega)
                have HE2 := hid (show encB kind l = [] by unfold encB; rw [HE.out]; rfl)
                have hb2 : (2048 : Int) < (BB.length : Int) + (s.length : Int) := by omega
                clear hz hok
                go_wp2
                go_ret2
                rw [HE.out, HE2.out]
                exact ⟨_, rfl, ans_nil HBj.out⟩
              · have hb2 : ¬ ((2048 : Int) < (BB.length : Int) + (s.length : Int)) := by omega
                obtain ⟨zn, rfl⟩ : ∃ zn : Nat, z = (zn : Int) := ⟨z.toNat, by have := hok.1.1; omega⟩
                have hzn : zn < 10000 := by have := hok.1.2.1; omega
                have FD := hid (fun w' => field_any zn s w' hzn (by omega))
                have hfl := fieldB_len ((zn : Int), s)
                have hn20 : nDigits zn ≤ 20 := nDigits_le20 zn (by omega)
                simp only [Int.toNat_natCast] at hfl
                obtain ⟨PF, hPF⟩ : ∃ P, fieldB ((zn : Int), s) = P := ⟨_, rfl⟩
                rw [hPF] at FD HFT hfl
                have hPl : PF.length ≤ 2100 := by omega
                have hcat : ∀ w', (binOp .add 9 (.string ⟨BB.toArray⟩) (.string ⟨PF.toArray⟩)).run Tryd.prog w' = .ok (.string ⟨(BB ++ PF).toArray⟩) w' := fun w' => run_cat BB PF (by omega) w'
                have HBB2 := hid (show BB ++ PF = P0 ++ (l.take (j + 1)).flatMap fieldB by rw [HFT.out, ← List.append_assoc, HBB.out])
                have H0 := hid h0
                have H1 := hid h1
                have keep : ∀ w', Below wr.heap.size wr w' → (w'.cell? ⟨b, o + j * 2, none⟩ = some (.int .i64 (zn : Int)) ∧ w'.cell? ⟨b, o + j * 2 + 1, none⟩ = some (.string ⟨s.toArray⟩)) ∧ Below wr.heap.size wr w' := by
                  intro w' hb
                  exact ⟨⟨by rw [hb.cell (cell_lt H0.out)]; exact H0.out, by rw [hb.cell (cell_lt H1.out)]; exact H1.out⟩, hb⟩
                have KEEP := hid keep
                clear hz hok keep hPF hfl hn20
                go_wp2
                go_region_with (first | (go_at_call 38; refine (FD.out _).mono ?_; rintro e wx ⟨rfl, hbk⟩; have HK := hid (show Below wr.heap.size wr wx from (by first | exact btr' (Below.drew (Below.refl _ _)) hbk | exact hbk)); clear hbk))
                all_goals
                  go_wp2
                  go_roundw
                  case rel => exact ⟨j + 1, BB ++ PF, by omega, by go_num, rfl, by simp; omega, HBB2, hid (btr' HBj.out HK.out)⟩
                  case measure => simp [RowKit.intOf]; omega
            · have HBD := hid (show BB = bodyB kind l by
                have h := HBB.out
                rw [List.take_of_length_le (by omega)] at h
                unfold bodyB
                rw [HP0.out]; exact h)
              have F8 := hid (fun w' => field_any 8 [66, 82, 83, 46, 49] w' (by omega) (by decide))
              rw [show ((8 : Nat) : Int) = 8 from rfl] at F8
              have DC := hid (fun w' => rdecimal_any BB.length (by omega) w')
              have hDl : (decDigits BB.length).length ≤ 20 := by rw [decDigits_length]; exact nDigits_le20 _ (by omega)
              have F9 := hid (fun w' => field_any 9 (decDigits BB.length) w' (by omega) (by omega))
              rw [show ((9 : Nat) : Int) = 9 from rfl] at F9
              have LA := hid (show aheadB kind l = fieldB (8, [66, 82, 83, 46, 49]) ++ fieldB (9, decDigits BB.length) ++ BB by
                unfold aheadB headB
                rw [← HBD.out]
                unfold fieldB
                have e8 : decDigits (8 : Int).toNat = [56] := decDigits_one (by decide)
                have e9 : decDigits (9 : Int).toNat = [57] := decDigits_one (by decide)
                rw [e8, e9]
                simp)
              have hf8 : (fieldB (8, [66, 82, 83, 46, 49])).length ≤ 40 := by rw [fieldB_len]; have := nDigits_le20 8 (by decide); simp; omega
              have hf9 : (fieldB (9, decDigits BB.length)).length ≤ 60 := by rw [fieldB_len]; have := nDigits_le20 9 (by decide); simp; omega
              have hwB : IntKind.u64.wrap (BB.length : Int) = (BB.length : Int) := by rw [IntKind.wrap_u64]; omega
              obtain ⟨L8, hL8⟩ : ∃ P, fieldB (8, [66, 82, 83, 46, 49]) = P := ⟨_, rfl⟩
              obtain ⟨L9, hL9⟩ : ∃ P, fieldB (9, decDigits BB.length) = P := ⟨_, rfl⟩
              obtain ⟨D, hD⟩ : ∃ D, decDigits BB.length = D := ⟨_, rfl⟩
              rw [hL8] at F8 LA hf8
              rw [hL9] at F9 LA hf9
              rw [hD] at F9 DC
              have c1 : (⟨L8.toArray⟩ : ByteArray) ++ ⟨L9.toArray⟩ = ⟨(L8 ++ L9).toArray⟩ := ba_append L8 L9
              have c2 : (⟨(L8 ++ L9).toArray⟩ : ByteArray) ++ ⟨BB.toArray⟩ = ⟨(L8 ++ L9 ++ BB).toArray⟩ := ba_append (L8 ++ L9) BB
              have hAl : (L8 ++ L9 ++ BB).length ≤ 4400 := by simp; omega
              obtain ⟨AA, hAA⟩ : ∃ A, L8 ++ L9 ++ BB = A := ⟨_, rfl⟩
              rw [hAA] at c2 LA hAl
              have hlt256 := sumB_lt AA
              have TH := hid (fun w' => three_any (sumB AA) w' hlt256)
              have T7 := trailB_len AA
              have TB := hid (show trailB AA = fieldB (10, (decDigits (1000 + sumB AA)).drop 1) by
                unfold trailB fieldB
                have e10 : decDigits (10 : Int).toNat = [49, 48] := decDigits_two (by decide) (by decide)
                rw [e10]
                simp)
              have h3 : ((decDigits (1000 + sumB AA)).drop 1).length ≤ 20 := by simp [decDigits_length]; have := nDigits_le20 (1000 + sumB AA) (by omega); omega
              have F10 := hid (fun w' => field_any 10 ((decDigits (1000 + sumB AA)).drop 1) w' (by omega) (by omega))
              rw [show ((10 : Nat) : Int) = 10 from rfl, ← TB.out] at F10
              have RS := hid (fun q cap w' hS => rsum_any AA q cap w' (by omega) hS)
              obtain ⟨SS, hSS⟩ : ∃ s, sumB AA = s := ⟨_, rfl⟩
              obtain ⟨T3, hT3⟩ : ∃ s, (decDigits (1000 + sumB AA)).drop 1 = s := ⟨_, rfl⟩
              rw [hT3] at TH F10
              rw [hSS] at TH RS hlt256
              have LB := hid (show lineB kind l = AA ++ trailB AA by unfold lineB; rw [LA.out])
              have LL := hid (show (lineB kind l).length = AA.length + 7 by rw [LB.out, List.length_append, T7])
              obtain ⟨TT, hTT⟩ : ∃ T, trailB AA = T := ⟨_, rfl⟩
              rw [hTT] at F10 LB T7
              have c3 : (⟨AA.toArray⟩ : ByteArray) ++ ⟨TT.toArray⟩ = ⟨(AA ++ TT).toArray⟩ := ba_append AA TT
              obtain ⟨ZZ, hZZ⟩ : ∃ Z, AA ++ TT = Z := ⟨_, rfl⟩
              have hZl : ZZ.length = AA.length + 7 := by rw [← hZZ, List.length_append, T7]
              rw [hZZ] at c3 LB
              have cvt1 : ∀ w', (convert 9 35 (.string ⟨AA.toArray⟩)).run Tryd.prog w' = .ok (.slice (some ⟨w'.heap.size, 0, none⟩) AA.length (grownCap w' AA.length 0 5)) (bytesWorld w' 5 ⟨AA.toArray⟩) := fun w' => by
                have h := Go.Lib.run_convert_string_bytes (P := Tryd.prog) w' 9 35 5 ⟨AA.toArray⟩ Tryd.underlying9 Tryd.underlying35 Tryd.underlying5
                rw [show (⟨AA.toArray⟩ : ByteArray).size = AA.length by simp [ByteArray.size]] at h
                exact h
              have cvt2 : ∀ w', (convert 9 35 (.string ⟨ZZ.toArray⟩)).run Tryd.prog w' = .ok (.slice (some ⟨w'.heap.size, 0, none⟩) ZZ.length (grownCap w' ZZ.length 0 5)) (bytesWorld w' 5 ⟨ZZ.toArray⟩) := fun w' => by
                have h := Go.Lib.run_convert_string_bytes (P := Tryd.prog) w' 9 35 5 ⟨ZZ.toArray⟩ Tryd.underlying9 Tryd.underlying35 Tryd.underlying5
                rw [show (⟨ZZ.toArray⟩ : ByteArray).size = ZZ.length by simp [ByteArray.size]] at h
                exact h
              have HZl := hid hZl
              have HT7 := hid T7
              have hT7 : TT.length ≤ 7 := by omega
              clear hL8 hL9 hD hDl hAA hSS hT3 hTT hZZ h3 T7 hZl
              by_cases hbig : 2048 < AA.length + 7
              · have HE := hid (show encE kind l = 2 by rw [E1.out, if_pos HE0.out, if_pos (by rw [LL.out]; exact hbig)])
                have HE2 := hid (show encB kind l = [] by unfold encB; rw [HE.out]; rfl)
                have hb2 : (2048 : Int) < (ZZ.length : Int) := by have := HZl.out; omega
                go_wp2_with (first | (go_at_call 38; refine (F8.out _).mono ?_; rintro e w1 ⟨rfl, hb⟩; have HB1 := hid (btr' HBj.out hb); clear hb; refine Hid.out ?_))
                refine Lib.hid ?_
                go_wp2_with (first | (go_at_call 21; refine (DC.out _).mono ?_; rintro e w2 ⟨rfl, hb⟩; have HB2 := hid (btr' HB1.out hb); clear hb) | (go_at_call 38; refine (F9.out _).mono ?_; rintro e w3 ⟨rfl, hb⟩; have HB3 := hid (btr' HB2.out hb); clear hb; refine Hid.out ?_))
                refine Lib.hid ?_
                go_wp2_with (first | (go_at_call 20; refine (RS.out _ _ _ (sb_bytes _ AA)).mono ?_; rintro e w4 ⟨rfl, hw⟩; have HB4 := hid (show Below w.heap.size w w4 by rw [hw]; exact btr' HB3.out (bytesWorld_below _ _ _)); clear hw) | (go_at_call 39; refine (TH.out _).mono ?_; rintro e w5 ⟨rfl, hb⟩; have HB5 := hid (btr' HB4.out hb); clear hb) | (go_at_call 38; refine (F10.out _).mono ?_; rintro e w6 ⟨rfl, hb⟩; have HB6 := hid (btr' HB5.out hb); clear hb))
                go_ret2
                rw [HE.out, HE2.out]
                exact ⟨_, rfl, ans_nil HB6.out⟩
              · have HE := hid (show encE kind l = 0 by rw [E1.out, if_pos HE0.out, if_neg (by rw [LL.out]; exact hbig)])
                have HE2 := hid (show encB kind l = ZZ by unfold encB; rw [HE.out, if_pos rfl, LB.out])
                have hb2 : ¬ ((2048 : Int) < (ZZ.length : Int)) := by have := HZl.out; omega
                go_wp2_with (first | (go_at_call 38; refine (F8.out _).mono ?_; rintro e w1 ⟨rfl, hb⟩; have HB1 := hid (btr' HBj.out hb); clear hb; refine Hid.out ?_))
                refine Lib.hid ?_
                go_wp2_with (first | (go_at_call 21; refine (DC.out _).mono ?_; rintro e w2 ⟨rfl, hb⟩; have HB2 := hid (btr' HB1.out hb); clear hb) | (go_at_call 38; refine (F9.out _).mono ?_; rintro e w3 ⟨rfl, hb⟩; have HB3 := hid (btr' HB2.out hb); clear hb; refine Hid.out ?_))
                refine Lib.hid ?_
                go_wp2_with (first | (go_at_call 20; refine (RS.out _ _ _ (sb_bytes _ AA)).mono ?_; rintro e w4 ⟨rfl, hw⟩; have HB4 := hid (show Below w.heap.size w w4 by rw [hw]; exact btr' HB3.out (bytesWorld_below _ _ _)); clear hw) | (go_at_call 39; refine (TH.out _).mono ?_; rintro e w5 ⟨rfl, hb⟩; have HB5 := hid (btr' HB4.out hb); clear hb) | (go_at_call 38; refine (F10.out _).mono ?_; rintro e w6 ⟨rfl, hb⟩; have HB6 := hid (btr' HB5.out hb); clear hb))
                go_ret2
                rw [HE.out, HE2.out]
                exact ⟨_, rfl, _, _, rfl, sb_bytes _ ZZ, (fun a ha => by cases ha; exact HB6.out.size), btr' HB6.out (bytesWorld_below _ _ _)⟩
  · have e : encE kind l = 3 := by unfold encE; rw [if_pos (by simpa using hkd)]
    have e2 : encB kind l = [] := by unfold encB; rw [e]; rfl
    rw [e, e2]
    rw [decide_eq_false hkd] at IK
    clear e e2
    go_enter Tryd.func16, Tryd.ntmps16
    go_wp2_with (go_at_call 34; refine IK.out.mono ?_; rintro e w1 ⟨rfl, rfl⟩)
    go_ret2
    exact ⟨_, rfl, ans_nil (Below.refl _ _)⟩
end Go.Proofs.YtcokggeodbipjaaDoor
