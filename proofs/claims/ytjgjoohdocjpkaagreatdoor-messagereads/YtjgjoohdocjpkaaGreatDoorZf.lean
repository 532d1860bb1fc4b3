/-
  The texts of this claim, part 6.
-/
import Derived.Test.YtjgjoohdocjpkaaGreatDoorZe
namespace Go.Proofs.YtjgjoohdocjpkaaGreatDoor
open Go.RowKit Go.Deep Go.Lib Go.Shelf Go.Sort
set_option linter.unusedVariables false
theorem bodyR_back0 (body : List UInt8) (hlast : body.getLast? = some 1) : ∀ (r cur : List UInt8) (K : List UInt8) (L : List (Int × List UInt8)) (p : Nat), body = cur ++ r → (1 : UInt8) ∉ cur → bodyR body r cur.length 0 [] [] = (K, L, p, 0) →
    KindOk K ∧ body = bodyB K L ∧ firstE [] L = 0 ∧ L.length ≤ 64
  | [], cur, K, L, p, hb, h1, h => by
    rw [List.append_nil] at hb
    subst hb
    exact absurd (List.mem_of_getLast? hlast) h1
  | c :: r, cur, K, L, p, hb, h1, h => by
    simp only [bodyR] at h
    by_cases hc : c = 1
    · subst hc
      have hcut : (body.drop 0).take (cur.length - 0) = cur := by
        rw [hb, List.drop_zero, Nat.sub_zero, List.take_left' rfl]
      rw [if_neg (by simp), hcut] at h
      obtain ⟨x, ok, hf⟩ : ∃ x ok, fieldE cur = (x, ok) := ⟨_, _, rfl⟩
      rw [hf] at h
      simp only at h
      split at h
      · simp at h
      · rename_i hok
        have hok' : ok = true := by simpa using hok
        subst hok'
        rw [if_pos trivial] at h
        obtain ⟨k, e, hk⟩ : ∃ k e, kindE x = (k, e) := ⟨_, _, rfl⟩
        rw [hk] at h
        simp only at h
        split at h
        · rename_i hne
          simp only [Prod.mk.injEq] at h
          exact absurd h.2.2.2 hne
        · rename_i hne
          have he : e = 0 := by simpa using hne
          subst he
          unfold kindE at hk
          split at hk
          · rename_i hx
            simp only [Prod.mk.injEq] at hk
            obtain ⟨rfl, _⟩ := hk
            have e : cur.length + 1 = (cur ++ [1]).length := by simp
            rw [e] at h
            have hl2 : ([] : List UInt8) ++ r = [] ∨ (([] : List UInt8) ++ r).getLast? = some 1 := by
              cases r with
              | nil => exact Or.inl rfl
              | cons d r =>
                refine Or.inr ?_
                rw [hb] at hlast
                simpa [List.getLast?_append] using hlast
            obtain ⟨rfl, m, hL, hm, hf2, hl3⟩ := bodyR_back body x.2 r [] (cur ++ [1]) [] K L p (by rw [hb]; simp) (by simp) (by simp) hl2 (by simp) (by simpa using h)
            rw [List.nil_append] at hL hm
            subst hL
            refine ⟨hx.2, ?_, hf2, by simpa using hl3⟩
            rw [hb, fieldE_inv hf, hm, hx.1]
            simp [bodyB, fieldB]
          · simp at hk
    · rw [if_pos hc] at h
      exact bodyR_back0 body hlast r (cur ++ [c]) K L p (by rw [hb]; simp) (by simp; exact ⟨h1, fun e => hc e.symm⟩) (by rw [List.length_append, List.length_cons, List.length_nil, Nat.zero_add]; exact h)
theorem lenE_parts {b : List UInt8} {f t p : Nat} (h : lenE b = ((f, t), p, 0)) : ∃ d s, f = 10 + d + 1 ∧ t = f + s ∧ decDigits s = (b.drop 10).take d ∧ b[10 + d]? = some 1 := by
  unfold lenE at h
  split at h
  · simp at h
  · split at h
    · simp at h
    · rename_i s hs
      split at h
      · simp at h
      · rename_i hc
        split at h
        · simp at h
        · simp only [Prod.mk.injEq] at h
          refine ⟨digN (b.drop 10) 0 5, s, h.1.1.symm, by rw [← h.1.1, ← h.1.2], (num_some _ _ hs).1, ?_⟩
          rcases Classical.em (b[10 + digN (b.drop 10) 0 5]? = some 1) with h | h
          · exact h
          · exact absurd (Or.inr h) hc
theorem outE_parts {b : List UInt8} {f t p : Nat} (h : outE b = ((f, t), p, 0)) : (begE b 0 10).2 = 0 ∧ (∃ p', lenE b = ((f, t), p', 0)) ∧ b[t - 1]? = some 1 := by
  unfold outE at h
  split at h
  · rename_i hn; simp only [Prod.mk.injEq] at h; exact absurd h.2.2 hn
  · rename_i hb
    split at h
    · rename_i hn; simp only [Prod.mk.injEq] at h; exact absurd h.2.2 hn
    · rename_i hl
      split at h
      · simp at h
      · split at h
        · simp at h
        · rename_i hT
          split at h
          · simp at h
          · simp only [Prod.mk.injEq] at h
            rw [h.1] at hT
            refine ⟨by simpa using hb, ⟨(lenE b).2.1, ?_⟩, ?_⟩
            · rw [← h.1, ← show (lenE b).2.2 = 0 by simpa using hl]
            · rcases Classical.em (b[t - 1]? = some 1) with h | h
              · exact h
              · exact absurd (Or.inr (Or.inr h)) hT
/-- what is decoded is what was encoded. -/
theorem decR_back {b k : List UInt8} {m : List (Int × List UInt8)} {n : Nat} (h : decR b = (k, m, n, 0)) : 1 ≤ n ∧ n ≤ b.length ∧ encE k m = 0 ∧ lineB k m = b.take n := by
  unfold decR at h
  obtain ⟨f, t, p, e, ho⟩ : ∃ f t p e, outE b = ((f, t), p, e) := ⟨_, _, _, _, rfl⟩
  rw [ho] at h
  simp only at h
  split at h
  · rename_i hn; simp only [Prod.mk.injEq] at h; exact absurd h.2.2.2 hn
  · rename_i he
    have he0 : e = 0 := by simpa using he
    subst he0
    split at h
    · rename_i hn; simp only [Prod.mk.injEq] at h; exact absurd h.2.2.2 hn
    · rename_i hbe
      obtain ⟨K, L, P, E, hB⟩ : ∃ x1 x2 x3 x4, bodyR ((b.drop f).take (t - f)) ((b.drop f).take (t - f)) 0 0 [] [] = (x1, x2, x3, x4) := ⟨_, _, _, _, rfl⟩
      rw [hB] at h hbe
      simp only [Prod.mk.injEq, ne_eq, Decidable.not_not] at h hbe
      obtain ⟨rfl, rfl, rfl, _⟩ := h
      subst hbe
      obtain ⟨_, k1, k2, k3, k4⟩ := outE_ok ho
      have hT := outE_trail ho
      obtain ⟨hbeg, ⟨p', hlen⟩, hlast⟩ := outE_parts ho
      obtain ⟨d, s, rfl, rfl, hds, hone⟩ := lenE_parts hlen
      obtain ⟨BD, hBD⟩ : ∃ x, (b.drop (10 + d + 1)).take (10 + d + 1 + s - (10 + d + 1)) = x := ⟨_, rfl⟩
      have hBl : BD.length = s := by rw [← hBD]; simp; omega
      have hBD2 : (b.drop (10 + d + 1)).take s = BD := by rw [← hBD]; congr 1; omega
      rw [hBD] at hB
      have hBlast : BD.getLast? = some 1 := by
        rw [List.getLast?_eq_getElem?, hBl, ← hBD2, List.getElem?_take_of_lt (by omega), List.getElem?_drop, ← hlast]
        congr 1
        omega
      obtain ⟨hK, hbody, hf1, hl64⟩ := bodyR_back0 BD hBlast BD [] K L P rfl (by simp) hB
      have hten : b.take 10 = [56, 61, 66, 82, 83, 46, 49, 1, 57, 61] := by
        obtain ⟨h10, hj⟩ := begE_ok b 10 0 hbeg (Nat.zero_le _)
        apply List.ext_getElem?
        intro j
        rcases Nat.lt_or_ge j 10 with hlt | hge
        · rw [List.getElem?_take_of_lt hlt]
          have := hj j hlt
          rw [Nat.zero_add] at this
          exact this
        · rw [List.getElem?_eq_none (by simp; omega), List.getElem?_eq_none (by simpa using hge)]
      have hA : aheadB K L = b.take (10 + d + 1 + s) := by
        unfold aheadB headB
        rw [← hbody, hBl, hds, List.take_add, List.take_add_one, List.take_add, hten, hone, hBD2]
        rfl
      have hLn : lineB K L = b.take (10 + d + 1 + s + 7) := by
        unfold lineB
        rw [hA, ← hT, ← List.take_add]
      refine ⟨by omega, k4, ?_, hLn⟩
      unfold encE
      rw [if_neg (by simpa using hK), if_neg (by omega), if_pos hf1, if_neg ?_]
      rw [hLn, List.length_take]
      omega
end Go.Proofs.YtjgjoohdocjpkaaGreatDoor
namespace Go.Proofs.YtjgjoohdocjpkaaGreatDoor
open Go.RowKit Go.Deep Go.Lib Go.Shelf Go.Sort
set_option linter.unusedVariables false
/-- a slice of bytes as an answer. -/
def Ans (w w' : World) (v : Value) (l : List UInt8) : Prop := ∃ q cap, v = .slice q l.length cap ∧ Sb w' q l ∧ (∀ a, q = some a → w.heap.size ≤ a.block) ∧ Below w.heap.size w w'
theorem ans_nil {w w' : World} (h : Below w.heap.size w w') : Ans w w' (.slice none 0 0) [] := ⟨none, 0, rfl, (fun i hi => by simp at hi), (fun a ha => by cases ha), h⟩

theorem sb_bytes (w : World) (l : List UInt8) : Sb (bytesWorld w 5 ⟨l.toArray⟩) (some ⟨w.heap.size, 0, none⟩) l := by
  intro i hi
  refine ⟨w.heap.size, 0, rfl, ?_⟩
  rw [Nat.zero_add, bytesWorld_cell w 5 ⟨l.toArray⟩ i (by simpa [ByteArray.size] using hi)]
  simp [List.getD, hi]
theorem run_cat (a b : List UInt8) (h : a.length + b.length ≤ 4611686018427387904) (w : World) : (binOp .add 9 (.string ⟨a.toArray⟩) (.string ⟨b.toArray⟩)).run Tryz.prog w = .ok (.string ⟨(a ++ b).toArray⟩) w := by
  have h1 : (⟨a.toArray⟩ : ByteArray) ++ ⟨b.toArray⟩ = ⟨(a ++ b).toArray⟩ := ba_append a b
  have u := Tryz.underlying9
  go_simp
  omega

set_option maxHeartbeats 4000000 in
set_option maxRecDepth 100000 in
/-- the document's Encode. -/
theorem rencode_any (kind : List UInt8) (l : List (Int × List UInt8)) (q : Option Addr) (cap : Nat) (w : World) (hk : kind.length ≤ 140737488355328) (hs : ∀ x ∈ l, x.2.length ≤ 140737488355328) (hl : l.length < 9223372036854775808) (hcap : l.length ≤ cap) (hcm : cap < 9223372036854775808) (hT : Ts w q l) :
    Calls Tryz.prog 44 #[.string ⟨kind.toArray⟩, .slice q l.length cap] w fun e w' => ∃ v, e = .returned (.tuple #[v, .int .i64 (encE kind l)]) ∧ Ans w w' v (encB kind l) := by
  have HT := hid hT
  have HSz := hid hs
  have IK := hid (rkind_any kind w (by omega))
  clear hT hs
  by_cases hkd : KindOk kind
  · rw [decide_eq_true hkd] at IK
    by_cases h64 : 64 < l.length
    · have e : encE kind l = 2 := by unfold encE; rw [if_neg (by simpa using hkd), if_pos h64]
      have e2 : encB kind l = [] := by unfold encB; rw [e]; rfl
      rw [e, e2]
      clear e e2
      have h64' : (64 : Int) < (l.length : Int) := by omega
      go_enter Tryz.func44, Tryz.ntmps44
      go_wp2_with (go_at_call 65; refine IK.out.mono ?_; rintro e w1 ⟨rfl, rfl⟩)
      go_ret2
      exact ⟨_, rfl, ans_nil (Below.refl _ _)⟩
    · have h64' : ¬ ((64 : Int) < (l.length : Int)) := by omega
      have E1 := hid (show encE kind l = if firstE [] l = 0 then (if 2048 < (lineB kind l).length then 2 else 0) else firstE [] l by unfold encE; rw [if_neg (by simpa using hkd), if_neg h64])
      have hk2 : kind.length ≤ 2 := by have := hkd.1; omega
      have HKD := hid hkd
      have H64 := hid h64
      clear hkd h64
      go_enter Tryz.func44, Tryz.ntmps44
      go_wp2_with (first | (go_at_call 65; refine IK.out.mono ?_; rintro e w ⟨rfl, rfl⟩))
      go_loopw [6] (fun iv wr => ∃ k : Nat, k ≤ l.length ∧ iv = .int .i64 k ∧ Hid (firstE [] l = firstE (l.take k) (l.drop k)) ∧ Hid (Below w.heap.size w wr) ∧ Hid (∀ x ∈ l.take k, TagOk x.1 ∧ ValOk x.2)) (fun iv _ => l.length - (RowKit.intOf iv).toNat)
      case atStart => exact ⟨0, Nat.zero_le _, rfl, hid (by simp), Below.refl _ _, fun x hx => by simp at hx⟩
      case round =>
        obtain ⟨k, hk, rfl, HFI, HB, HOK⟩ := hrel
        by_cases hlt : k < l.length
        · obtain ⟨b, o, rfl, h0, h1⟩ := (HT.out.on HB.out) k hlt
          have i0 : (0 : Int) ≤ (k : Int) := by omega
          have i1 : (k : Int) < (l.length : Int) := by omega
          have i2 : (k : Int) ≤ (cap : Int) := by omega
          obtain ⟨z, s, hz⟩ : ∃ z s, l[k] = (z, s) := ⟨_, _, rfl⟩
          have hsl : s.length ≤ 140737488355328 := HSz.out (z, s) (by rw [← hz]; exact List.getElem_mem hlt)
          have HFD := hid (firstE_drop k hlt)
          rw [hz] at h0 h1 HFD
          simp only at h0 h1
          have hlk : (l.take k).length = k := by simp; omega
          have H0 := hid h0
          have H1 := hid h1
          have keep : ∀ w', Below wr.heap.size wr w' → w'.cell? ⟨b, o + k * 2, none⟩ = some (.int .i64 z) ∧ Below wr.heap.size wr w' := by
            intro w' hb
            exact ⟨by rw [hb.cell (cell_lt H0.out)]; exact H0.out, hb⟩
          have KEEP := hid keep
          have keep1 := hid (fun w' (hb : Below wr.heap.size wr w') => show w'.cell? ⟨b, o + k * 2 + 1, none⟩ = some (.string ⟨s.toArray⟩) by rw [hb.cell (cell_lt H1.out)]; exact H1.out)
          have IT := hid (fun w' => istag_any z w')
          have TH := hid (fun w' hT => there_any (l.take k) (some ⟨b, o, none⟩) cap z w' (by omega) hT)
          have HTW := hid (fun w' (hb : Below wr.heap.size wr w') => ts_take (HT.out.on (btr' HB.out hb)) k)
          rw [hlk] at TH
          clear keep hlk h1
          by_cases ht : TagOk z
          · rw [decide_eq_true ht] at IT
            cases hss : (val? (l.take k) z).isSome with
            | true =>
              rw [hss] at TH
              have hF : fitsE (l.take k) (z, s) = 30 := by unfold fitsE; rw [if_neg (by simpa using ht), if_pos hss]
              have HE := hid (show encE kind l = 30 by rw [E1.out, HFI.out, HFD.out, hF]; rfl)
              have HE2 := hid (show encB kind l = [] by unfold encB; rw [HE.out]; rfl)
              clear hF ht hss hz
              go_wp2
              go_region_held3 (fun w' => w'.cell? ⟨b, o + k * 2, none⟩ = some (.int .i64 z) ∧ Below wr.heap.size wr w')
                (first | exact KEEP.out _ (Below.drew (Below.refl _ _)) | exact KEEP.out _ HK.out)
                (first
                | (go_at_call 66; refine (IT.out _).mono ?_; rintro e wx ⟨rfl, hw⟩; have HK := hid (show Below wr.heap.size wr wx from (by rw [hw]; first | exact HK.out | exact Below.drew (Below.refl _ _))); clear hw)
                | (go_at_call 67; refine (TH.out _ (by first | exact HTW.out _ HK.out | exact HTW.out _ (Below.drew (Below.refl _ _)))).mono ?_; rintro e wx ⟨rfl, hw⟩; have HK := hid (show Below wr.heap.size wr wx from (by rw [hw]; first | exact HK.out | exact Below.drew (Below.refl _ _))); clear hw))
              all_goals
                go_wp2
                go_ret2
                rw [HE.out, HE2.out]
                exact ⟨_, rfl, ans_nil (btr' HB.out HK.out)⟩
            | false =>
              rw [hss] at TH
              have IV := hid (fun w' => risvalue_any s w' (by omega))
              by_cases hv : ValOk s
              · rw [decide_eq_true hv] at IV
                have hF : fitsE (l.take k) (z, s) = 0 := by unfold fitsE; rw [if_neg (by simpa using ht), if_neg (by rw [hss]; decide), if_neg (by simpa using hv)]
                have HFI2 := hid (show firstE [] l = firstE (l.take (k + 1)) (l.drop (k + 1)) by rw [HFI.out, HFD.out, if_pos hF])
                have HOK2 := hid (show ∀ x ∈ l.take (k + 1), TagOk x.1 ∧ ValOk x.2 by
                  rw [List.take_succ_eq_append_getElem hlt, hz]
                  intro x hx
                  rcases List.mem_append.1 hx with hx | hx
                  · exact HOK.out x hx
                  · obtain rfl := List.mem_singleton.1 hx; exact ⟨ht, hv⟩)
                clear hF ht hss hz hv
                go_wp2
                go_region_held3 (fun w' => w'.cell? ⟨b, o + k * 2, none⟩ = some (.int .i64 z) ∧ Below wr.heap.size wr w')
                (first | exact KEEP.out _ (Below.drew (Below.refl _ _)) | exact KEEP.out _ HK.out)
                (first
                | (go_at_call 66; refine (IT.out _).mono ?_; rintro e wx ⟨rfl, hw⟩; have HK := hid (show Below wr.heap.size wr wx from (by rw [hw]; first | exact HK.out | exact Below.drew (Below.refl _ _))); clear hw)
                | (go_at_call 67; refine (TH.out _ (by first | exact HTW.out _ HK.out | exact HTW.out _ (Below.drew (Below.refl _ _)))).mono ?_; rintro e wx ⟨rfl, hw⟩; have HK := hid (show Below wr.heap.size wr wx from (by rw [hw]; first | exact HK.out | exact Below.drew (Below.refl _ _))); clear hw))
                all_goals
                  have hcc := keep1.out _ HK.out
                  go_wp2_with (go_at_call 68; refine (IV.out _).mono ?_; rintro e wy ⟨rfl, rfl⟩)
                  go_roundw
                  case rel => exact ⟨k + 1, by omega, by go_num, HFI2, hid (btr' HB.out HK.out), HOK2⟩
                  case measure => simp [RowKit.intOf]; omega
              · rw [decide_eq_false hv] at IV
                have hF : fitsE (l.take k) (z, s) = 31 := by unfold fitsE; rw [if_neg (by simpa using ht), if_neg (by rw [hss]; decide), if_pos (by simpa using hv)]
                have HE := hid (show encE kind l = 31 by rw [E1.out, HFI.out, HFD.out, hF]; rfl)
                have HE2 := hid (show encB kind l = [] by unfold encB; rw [HE.out]; rfl)
                clear hF ht hss hz hv
                go_wp2
                go_region_held3 (fun w' => w'.cell? ⟨b, o + k * 2, none⟩ = some (.int .i64 z) ∧ Below wr.heap.size wr w')
                (first | exact KEEP.out _ (Below.drew (Below.refl _ _)) | exact KEEP.out _ HK.out)
                (first
                | (go_at_call 66; refine (IT.out _).mono ?_; rintro e wx ⟨rfl, hw⟩; have HK := hid (show Below wr.heap.size wr wx from (by rw [hw]; first | exact HK.out | exact Below.drew (Below.refl _ _))); clear hw)
                | (go_at_call 67; refine (TH.out _ (by first | exact HTW.out _ HK.out | exact HTW.out _ (Below.drew (Below.refl _ _)))).mono ?_; rintro e wx ⟨rfl, hw⟩; have HK := hid (show Below wr.heap.size wr wx from (by rw [hw]; first | exact HK.out | exact Below.drew (Below.refl _ _))); clear hw))
                all_goals
                  have hcc := keep1.out _ HK.out
                  go_wp2_with (go_at_call 68; refine (IV.out _).mono ?_; rintro e wy ⟨rfl, rfl⟩)
                  go_ret2
                  rw [HE.out, HE2.out]
                  exact ⟨_, rfl, ans_nil (btr' HB.out HK.out)⟩
          · rw [decide_eq_false ht] at IT
            have hF : fitsE (l.take k) (z, s) = 30 := by unfold fitsE; rw [if_pos (by simpa using ht)]
            have HE := hid (show encE kind l = 30 by rw [E1.out, HFI.out, HFD.out, hF]; rfl)
            have HE2 := hid (show encB kind l = [] by unfold encB; rw [HE.out]; rfl)
            clear hF ht hz
            go_wp2
            go_quiet (first | (go_at_call 66; refine Calls.quiet_of_same (IT.out _)))
            go_wp2
            go_ret2
            rw [HE.out, HE2.out]
            exact ⟨_, rfl, ans_nil (btr' HB.out ⟨rfl, rfl, rfl, Nat.le_refl _, fun _ _ => rfl⟩)⟩
        · have HE0 := hid (show firstE [] l = 0 by
            have h := HFI.out
            rw [List.take_of_length_le (by omega), List.drop_eq_nil_of_le (by omega)] at h
            rw [h, firstE])
          have HOK2 := hid (show ∀ x ∈ l, TagOk x.1 ∧ ValOk x.2 by
            have h := HOK.out
            rwa [List.take_of_length_le (by omega)] at h)
          have FD0 := hid (field_any 35 kind wr (by omega) (by omega))
          rw [show ((35 : Nat) : Int) = 35 from rfl] at FD0
          have hf0 : (fieldB (35, kind)).length ≤ 40 := by
            rw [fieldB_len]
            have : nDigits 35 = 2 := nDigits_unique 1 35 (by decide) (by decide)
            simp; omega
          obtain ⟨P0, hP0⟩ : ∃ P, fieldB (35, kind) = P := ⟨_, rfl⟩
          rw [hP0] at FD0 hf0
          have HP0 := hid hP0
          clear hP0 HFI HOK
          go_wp2_with (go_at_call 69; refine FD0.out.mono ?_; rintro e wx ⟨rfl, hb⟩; have HBX := hid (btr' HB.out hb); clear hb)
          go_loopw [7, 8] (fun bv iv wr => ∃ (k : Nat) (BB : List UInt8), k ≤ l.length ∧ iv = .int .i64 k ∧ bv = .string ⟨BB.toArray⟩ ∧ BB.length ≤ 4200 ∧ Hid (BB = P0 ++ (l.take k).flatMap fieldB) ∧ Hid (Below w.heap.size w wr)) (fun _ iv _ => l.length - (RowKit.intOf iv).toNat)
          case atStart => exact ⟨0, P0, Nat.zero_le _, rfl, rfl, by omega, hid (by simp), HBX⟩
          case round =>
            obtain ⟨j, BB, hj, rfl, rfl, hBB, HBB, HBj⟩ := hrel
            by_cases hjl : j < l.length
            · obtain ⟨b, o, rfl, h0, h1⟩ := (HT.out.on HBj.out) j hjl
              have i0 : (0 : Int) ≤ (j : Int) := by omega
              have i1 : (j : Int) < (l.length : Int) := by omega
              obtain ⟨z, s, hz⟩ : ∃ z s, l[j] = (z, s) := ⟨_, _, rfl⟩
              have hsl : s.length ≤ 140737488355328 := HSz.out (z, s) (by rw [← hz]; exact List.getElem_mem hjl)
              have HFT := hid (flat_take hjl)
              have hok := HOK2.out l[j] (List.getElem_mem hjl)
              rw [hz] at h0 h1 HFT hok
              simp only at h0 h1 hok
              by_cases hbig : 2048 < BB.length + s.length
              · have HE := hid (show encE kind l = 2 by
                  rw [E1.out, if_pos HE0.out, if_pos]
                  rw [lineB_len]
                  have h2 : BB.length + s.length ≤ (bodyB kind l).length := by
                    unfold bodyB
                    conv => rhs; rw [← List.take_append_drop (j + 1) l, List.flatMap_append, HFT.out, HP0.out]
                    rw [HBB.out]
                    simp only [List.length_append, fieldB_len]
                    omega
                  omega)
                have HE2 := hid (show encB kind l = [] by unfold encB; rw [HE.out]; rfl)
                have hb2 : (2048 : Int) < (BB.length : Int) + (s.length : Int) := by omega
                clear hz hok
                go_wp2
                go_ret2
                rw [HE.out, HE2.out]
                exact ⟨_, rfl, ans_nil HBj.out⟩
              · have hb2 : ¬ ((2048 : Int) < (BB.length : Int) + (s.length : Int)) := by omega
                obtain ⟨zn, rfl⟩ : ∃ zn : Nat, z = (zn : Int) := ⟨z.toNat, by have := hok.1.1; omega⟩
                have hzn : zn < 10000 := by have := hok.1.2.1; omega
                have FD := hid (fun w' => field_any zn s w' hzn (by omega))
                have hfl := fieldB_len ((zn : Int), s)
                have hn20 : nDigits zn ≤ 20 := nDigits_le20 zn (by omega)
                simp only [Int.toNat_natCast] at hfl
                obtain ⟨PF, hPF⟩ : ∃ P, fieldB ((zn : Int), s) = P := ⟨_, rfl⟩
                rw [hPF] at FD HFT hfl
                have hPl : PF.length ≤ 2100 := by omega
                have hcat : ∀ w', (binOp .add 9 (.string ⟨BB.toArray⟩) (.string ⟨PF.toArray⟩)).run Tryz.prog w' = .ok (.string ⟨(BB ++ PF).toArray⟩) w' := fun w' => run_cat BB PF (by omega) w'
                have HBB2 := hid (show BB ++ PF = P0 ++ (l.take (j + 1)).flatMap fieldB by rw [HFT.out, ← List.append_assoc, HBB.out])
                have H0 := hid h0
                have H1 := hid h1
                have keep : ∀ w', Below wr.heap.size wr w' → (w'.cell? ⟨b, o + j * 2, none⟩ = some (.int .i64 (zn : Int)) ∧ w'.cell? ⟨b, o + j * 2 + 1, none⟩ = some (.string ⟨s.toArray⟩)) ∧ Below wr.heap.size wr w' := by
                  intro w' hb
                  exact ⟨⟨by rw [hb.cell (cell_lt H0.out)]; exact H0.out, by rw [hb.cell (cell_lt H1.out)]; exact H1.out⟩, hb⟩
                have KEEP := hid keep
                clear hz hok keep hPF hfl hn20
                go_wp2
                go_region_with (first | (go_at_call 69; refine (FD.out _).mono ?_; rintro e wx ⟨rfl, hbk⟩; have HK := hid (show Below wr.heap.size wr wx from (by first | exact btr' (Below.drew (Below.refl _ _)) hbk | exact hbk)); clear hbk))
                all_goals
                  go_wp2
                  go_roundw
                  case rel => exact ⟨j + 1, BB ++ PF, by omega, by go_num, rfl, by simp; omega, HBB2, hid (btr' HBj.out HK.out)⟩
                  case measure => simp [RowKit.intOf]; omega
            · have HBD := hid (show BB = bodyB kind l by
                have h := HBB.out
                rw [List.take_of_length_le (by omega)] at h
                unfold bodyB
                rw [HP0.out]; exact h)
              have F8 := hid (fun w' => field_any 8 [66, 82, 83, 46, 49] w' (by omega) (by decide))
              rw [show ((8 : Nat) : Int) = 8 from rfl] at F8
              have DC := hid (fun w' => rdecimal_any BB.length (by omega) w')
              have hDl : (decDigits BB.length).length ≤ 20 := by rw [decDigits_length]; exact nDigits_le20 _ (by omega)
              have F9 := hid (fun w' => field_any 9 (decDigits BB.length) w' (by omega) (by omega))
              rw [show ((9 : Nat) : Int) = 9 from rfl] at F9
              have LA := hid (show aheadB kind l = fieldB (8, [66, 82, 83, 46, 49]) ++ fieldB (9, decDigits BB.length) ++ BB by
                unfold aheadB headB
                rw [← HBD.out]
                unfold fieldB
                have e8 : decDigits (8 : Int).toNat = [56] := decDigits_one (by decide)
                have e9 : decDigits (9 : Int).toNat = [57] := decDigits_one (by decide)
                rw [e8, e9]
                simp)
              have hf8 : (fieldB (8, [66, 82, 83, 46, 49])).length ≤ 40 := by rw [fieldB_len]; have := nDigits_le20 8 (by decide); simp; omega
              have hf9 : (fieldB (9, decDigits BB.length)).length ≤ 60 := by rw [fieldB_len]; have := nDigits_le20 9 (by decide); simp; omega
              have hwB : IntKind.u64.wrap (BB.length : Int) = (BB.length : Int) := by rw [IntKind.wrap_u64]; omega
              obtain ⟨L8, hL8⟩ : ∃ P, fieldB (8, [66, 82, 83, 46, 49]) = P := ⟨_, rfl⟩
              obtain ⟨L9, hL9⟩ : ∃ P, fieldB (9, decDigits BB.length) = P := ⟨_, rfl⟩
              obtain ⟨D, hD⟩ : ∃ D, decDigits BB.length = D := ⟨_, rfl⟩
              rw [hL8] at F8 LA hf8
              rw [hL9] at F9 LA hf9
              rw [hD] at F9 DC
              have c1 : (⟨L8.toArray⟩ : ByteArray) ++ ⟨L9.toArray⟩ = ⟨(L8 ++ L9).toArray⟩ := ba_append L8 L9
              have c2 : (⟨(L8 ++ L9).toArray⟩ : ByteArray) ++ ⟨BB.toArray⟩ = ⟨(L8 ++ L9 ++ BB).toArray⟩ := ba_append (L8 ++ L9) BB
              have hAl : (L8 ++ L9 ++ BB).length ≤ 4400 := by simp; omega
              obtain ⟨AA, hAA⟩ : ∃ A, L8 ++ L9 ++ BB = A := ⟨_, rfl⟩
              rw [hAA] at c2 LA hAl
              have hlt256 := sumB_lt AA
              have TH := hid (fun w' => three_any (sumB AA) w' hlt256)
              have T7 := trailB_len AA
              have TB := hid (show trailB AA = fieldB (10, (decDigits (1000 + sumB AA)).drop 1) by
                unfold trailB fieldB
                have e10 : decDigits (10 : Int).toNat = [49, 48] := decDigits_two (by decide) (by decide)
                rw [e10]
                simp)
              have h3 : ((decDigits (1000 + sumB AA)).drop 1).length ≤ 20 := by simp [decDigits_length]; have := nDigits_le20 (1000 + sumB AA) (by omega); omega
              have F10 := hid (fun w' => field_any 10 ((decDigits (1000 + sumB AA)).drop 1) w' (by omega) (by omega))
              rw [show ((10 : Nat) : Int) = 10 from rfl, ← TB.out] at F10
              have RS := hid (fun q cap w' hS => rsum_any AA q cap w' (by omega) hS)
              obtain ⟨SS, hSS⟩ : ∃ s, sumB AA = s := ⟨_, rfl⟩
              obtain ⟨T3, hT3⟩ : ∃ s, (decDigits (1000 + sumB AA)).drop 1 = s := ⟨_, rfl⟩
              rw [hT3] at TH F10
              rw [hSS] at TH RS hlt256
              have LB := hid (show lineB kind l = AA ++ trailB AA by unfold lineB; rw [LA.out])
              have LL := hid (show (lineB kind l).length = AA.length + 7 by rw [LB.out, List.length_append, T7])
              obtain ⟨TT, hTT⟩ : ∃ T, trailB AA = T := ⟨_, rfl⟩
              rw [hTT] at F10 LB T7
              have c3 : (⟨AA.toArray⟩ : ByteArray) ++ ⟨TT.toArray⟩ = ⟨(AA ++ TT).toArray⟩ := ba_append AA TT
              obtain ⟨ZZ, hZZ⟩ : ∃ Z, AA ++ TT = Z := ⟨_, rfl⟩
              have hZl : ZZ.length = AA.length + 7 := by rw [← hZZ, List.length_append, T7]
              rw [hZZ] at c3 LB
              have cvt1 : ∀ w', (convert 9 22 (.string ⟨AA.toArray⟩)).run Tryz.prog w' = .ok (.slice (some ⟨w'.heap.size, 0, none⟩) AA.length (grownCap w' AA.length 0 5)) (bytesWorld w' 5 ⟨AA.toArray⟩) := fun w' => by
                have h := Go.Lib.run_convert_string_bytes (P := Tryz.prog) w' 9 22 5 ⟨AA.toArray⟩ Tryz.underlying9 Tryz.underlying22 Tryz.underlying5
                rw [show (⟨AA.toArray⟩ : ByteArray).size = AA.length by simp [ByteArray.size]] at h
                exact h
              have cvt2 : ∀ w', (convert 9 22 (.string ⟨ZZ.toArray⟩)).run Tryz.prog w' = .ok (.slice (some ⟨w'.heap.size, 0, none⟩) ZZ.length (grownCap w' ZZ.length 0 5)) (bytesWorld w' 5 ⟨ZZ.toArray⟩) := fun w' => by
                have h := Go.Lib.run_convert_string_bytes (P := Tryz.prog) w' 9 22 5 ⟨ZZ.toArray⟩ Tryz.underlying9 Tryz.underlying22 Tryz.underlying5
                rw [show (⟨ZZ.toArray⟩ : ByteArray).size = ZZ.length by simp [ByteArray.size]] at h
                exact h
              have HZl := hid hZl
              have HT7 := hid T7
              have hT7 : TT.length ≤ 7 := by omega
              clear hL8 hL9 hD hDl hAA hSS hT3 hTT hZZ h3 T7 hZl
              by_cases hbig : 2048 < AA.length + 7
              · have HE := hid (show encE kind l = 2 by rw [E1.out, if_pos HE0.out, if_pos (by rw [LL.out]; exact hbig)])
                have HE2 := hid (show encB kind l = [] by unfold encB; rw [HE.out]; rfl)
                have hb2 : (2048 : Int) < (ZZ.length : Int) := by have := HZl.out; omega
                go_wp2_with (first | (go_at_call 69; refine (F8.out _).mono ?_; rintro e w1 ⟨rfl, hb⟩; have HB1 := hid (btr' HBj.out hb); clear hb; refine Hid.out ?_))
                refine Lib.hid ?_
                go_wp2_with (first | (go_at_call 26; refine (DC.out _).mono ?_; rintro e w2 ⟨rfl, hb⟩; have HB2 := hid (btr' HB1.out hb); clear hb) | (go_at_call 69; refine (F9.out _).mono ?_; rintro e w3 ⟨rfl, hb⟩; have HB3 := hid (btr' HB2.out hb); clear hb; refine Hid.out ?_))
                refine Lib.hid ?_
                go_wp2_with (first | (go_at_call 62; refine (RS.out _ _ _ (sb_bytes _ AA)).mono ?_; rintro e w4 ⟨rfl, hw⟩; have HB4 := hid (show Below w.heap.size w w4 by rw [hw]; exact btr' HB3.out (bytesWorld_below _ _ _)); clear hw) | (go_at_call 61; refine (TH.out _).mono ?_; rintro e w5 ⟨rfl, hb⟩; have HB5 := hid (btr' HB4.out hb); clear hb) | (go_at_call 69; refine (F10.out _).mono ?_; rintro e w6 ⟨rfl, hb⟩; have HB6 := hid (btr' HB5.out hb); clear hb))
                go_ret2
                rw [HE.out, HE2.out]
                exact ⟨_, rfl, ans_nil HB6.out⟩
              · have HE := hid (show encE kind l = 0 by rw [E1.out, if_pos HE0.out, if_neg (by rw [LL.out]; exact hbig)])
                have HE2 := hid (show encB kind l = ZZ by unfold encB; rw [HE.out, if_pos rfl, LB.out])
                have hb2 : ¬ ((2048 : Int) < (ZZ.length : Int)) := by have := HZl.out; omega
                go_wp2_with (first | (go_at_call 69; refine (F8.out _).mono ?_; rintro e w1 ⟨rfl, hb⟩; have HB1 := hid (btr' HBj.out hb); clear hb; refine Hid.out ?_))
                refine Lib.hid ?_
                go_wp2_with (first | (go_at_call 26; refine (DC.out _).mono ?_; rintro e w2 ⟨rfl, hb⟩; have HB2 := hid (btr' HB1.out hb); clear hb) | (go_at_call 69; refine (F9.out _).mono ?_; rintro e w3 ⟨rfl, hb⟩; have HB3 := hid (btr' HB2.out hb); clear hb; refine Hid.out ?_))
                refine Lib.hid ?_
                go_wp2_with (first | (go_at_call 62; refine (RS.out _ _ _ (sb_bytes _ AA)).mono ?_; rintro e w4 ⟨rfl, hw⟩; have HB4 := hid (show Below w.heap.size w w4 by rw [hw]; exact btr' HB3.out (bytesWorld_below _ _ _)); clear hw) | (go_at_call 61; refine (TH.out _).mono ?_; rintro e w5 ⟨rfl, hb⟩; have HB5 := hid (btr' HB4.out hb); clear hb) | (go_at_call 69; refine (F10.out _).mono ?_; rintro e w6 ⟨rfl, hb⟩; have HB6 := hid (btr' HB5.out hb); clear hb))
                go_ret2
                rw [HE.out, HE2.out]
                exact ⟨_, rfl, _, _, rfl, sb_bytes _ ZZ, (fun a ha => by cases ha; exact HB6.out.size), btr' HB6.out (bytesWorld_below _ _ _)⟩
  · have e : encE kind l = 3 := by unfold encE; rw [if_pos (by simpa using hkd)]
    have e2 : encB kind l = [] := by unfold encB; rw [e]; rfl
    rw [e, e2]
    rw [decide_eq_false hkd] at IK
    clear e e2
    go_enter Tryz.func44, Tryz.ntmps44
    go_wp2_with (go_at_call 65; refine IK.out.mono ?_; rintro e w1 ⟨rfl, rfl⟩)
    go_ret2
    exact ⟨_, rfl, ans_nil (Below.refl _ _)⟩
end Go.Proofs.YtjgjoohdocjpkaaGreatDoor
namespace Go.Proofs.YtjgjoohdocjpkaaGreatDoor
open Go.RowKit Go.Deep Go.Lib Go.Shelf Go.Sort
set_option linter.unusedVariables false
theorem Sb.grown {w w' : World} {q : Option Addr} {l : List UInt8} {row : Option Nat} (h : Sb w q l) (hg : w.grownBy w' row) (hne : ∀ a, q = some a → some a.block ≠ row) : Sb w' q l := fun i hi => by
  obtain ⟨b, o, e, h0⟩ := h i hi
  exact ⟨b, o, e, hg.cell h0 (hne ⟨b, o, none⟩ e)⟩
end Go.Proofs.YtjgjoohdocjpkaaGreatDoor
namespace Go.Proofs.YtjgjoohdocjpkaaGreatDoor
open Go.RowKit Go.Deep Go.Lib Go.Shelf Go.Sort
set_option linter.unusedVariables false
theorem own_slice (w : World) {ops : Array Oper} {rest : List Oper} {o : Oper} {a : Act} {Q : Exit → Act → World → Prop} (hgd : o.guard = none) (sl x : Operand)
    (ho : o.op = .call { callee := .builtin .append, args := #[sl, x], argTypes := #[22, 22] }) (B : Nat) (v : Value) (l : List UInt8) (hs : a.eval sl = v) (W0 : World) (hb : Own B W0 w v l) (b off n cap : Nat) (t : List UInt8) (hn : n = t.length) (hx : a.eval x = .slice (some ⟨b, off, none⟩) n cap) (hS : Sb w (some ⟨b, off, none⟩) t) (hlen : l.length + t.length ≤ 140737488355328)
    (h : ∀ v' w', Own B W0 w' v' (l ++ t) → wpList Tryz.prog ops Q rest (a.put o.dst v') w') : wpList Tryz.prog ops Q (o :: rest) a w := by
  subst hn
  obtain ⟨i0, hi, hz0, hz1, hz2⟩ := info_parts info5all
  refine wpList_append_own _ hgd sl x 22 ho B 5 i0 (.int .u8 0) 1 1 Tryz.underlying22 hi hz0 hz1 hz2 rfl (by decide) v l.length _ hs hb.1 ⟨b, off, none⟩ t.length cap (byteCells t) hx (by simp [byteCells]) ?_ ?_ (by unfold maxLen; omega) (by omega) hb.2.2 ?_
  · intro j u hj
    simp only [byteCells, List.getElem?_map, Option.map_eq_some_iff] at hj
    obtain ⟨c, hc, rfl⟩ := hj
    obtain ⟨hl, hc⟩ := List.getElem?_eq_some_iff.1 hc
    obtain ⟨b', o', e, h0⟩ := hS j hl
    obtain ⟨rfl, rfl⟩ : b = b' ∧ off = o' := by simpa using e
    rw [hc] at h0
    rw [Addr.add_mid]
    exact h0
  · intro u hu
    simp only [byteCells, List.mem_map] at hu
    obtain ⟨c, _, rfl⟩ := hu
    rfl
  · intro v' w' ho' hg _
    refine h v' w' ?_
    have hO : w'.ownsRow B 5 1 v' _ _ ∧ Below B W0 w' ∧ B ≤ w'.heap.size := ⟨ho', hb.2.1.grown hg hb.2.2 (fun k hk => (hb.1.lt k hk).1), Nat.le_trans hb.2.2 hg.size⟩
    unfold Own
    rw [byteCells_append, List.length_append]
    exact hO
theorem own_free {B : Nat} {W0 w : World} {v : Value} {l : List UInt8} (h : Own B W0 w v l) (hl : 0 < l.length) : ∃ g cap, v = .slice (some ⟨g, 0, none⟩) l.length cap ∧ B ≤ g ∧ Sb w (some ⟨g, 0, none⟩) l ∧ (∀ j, w.frozen? ⟨g, j, none⟩ = false) ∧ l.length ≤ cap ∧ cap < 9223372036854775808 := by
  obtain ⟨q, c, e, hS⟩ := h.form
  rcases h.1.2 with ⟨_, hn⟩ | ⟨g, cap, cur, e2, hB, hg, h5, h6, h7, h8⟩
  · omega
  · rw [e2] at e
    obtain ⟨rfl, rfl⟩ : some ⟨g, 0, none⟩ = q ∧ cap = c := by simpa using e
    exact ⟨g, cap, e2, hB, hS, fun j => frozen_of_row w g j _ 5 hg, h5, by unfold maxLen at h6; omega⟩
theorem own_emptyB (w : World) : Own w.heap.size w (w.alloc (.cells #[] 5)) (.slice (some ⟨w.heap.size, 0, none⟩) 0 0) [] := ⟨World.ownsRow_made (base := w.heap.size) (e := 5) (size := 1) w #[] 0 (Nat.le_refl _) (Nat.zero_le _) rfl, ball _ _, by simp⟩
end Go.Proofs.YtjgjoohdocjpkaaGreatDoor
namespace Go.Proofs.YtjgjoohdocjpkaaGreatDoor
open Go.RowKit Go.Deep Go.Lib Go.Shelf Go.Sort
set_option linter.unusedVariables false
/-- bytes in memory, or none. -/
def Sg (w : World) (q : Option Addr) (cap : Nat) (l : List UInt8) : Prop := Sb w q l ∧ (q = none → l = [] ∧ cap = 0)
theorem Sg.on {w w' : World} {q : Option Addr} {cap : Nat} {l : List UInt8} (h : Sg w q cap l) (hb : Below w.heap.size w w') : Sg w' q cap l := ⟨h.1.on hb, h.2⟩
/-- a slice of bytes behind a slice of one's own. -/
theorem own_sliceQ (w : World) {ops : Array Oper} {rest : List Oper} {o : Oper} {a : Act} {Q : Exit → Act → World → Prop} (hgd : o.guard = none) (sl x : Operand)
    (ho : o.op = .call { callee := .builtin .append, args := #[sl, x], argTypes := #[22, 22] }) (B : Nat) (v : Value) (l : List UInt8) (hs : a.eval sl = v) (W0 : World) (hb : Own B W0 w v l) (q : Option Addr) (n cap : Nat) (t : List UInt8) (hn : n = t.length) (hx : a.eval x = .slice q n cap) (hS : Sg w q cap t) (hlen : l.length + t.length ≤ 140737488355328)
    (h : ∀ v' w', Own B W0 w' v' (l ++ t) → wpList Tryz.prog ops Q rest (a.put o.dst v') w') : wpList Tryz.prog ops Q (o :: rest) a w := by
  subst hn
  obtain ⟨i0, hi, hz0, hz1, hz2⟩ := info_parts info5all
  cases q with
  | none =>
    obtain ⟨rfl, rfl⟩ := hS.2 rfl
    exact wpList_append_own_none hgd sl x 22 ho B 5 i0 1 Tryz.underlying22 hi v l.length _ hs hb.1 hx (by simpa using h v w (by simpa using hb))
  | some ad =>
    refine wpList_append_own _ hgd sl x 22 ho B 5 i0 (.int .u8 0) 1 1 Tryz.underlying22 hi hz0 hz1 hz2 rfl (by decide) v l.length _ hs hb.1 ad t.length cap (byteCells t) hx (by simp [byteCells]) ?_ ?_ (by unfold maxLen; omega) (by omega) hb.2.2 ?_
    · intro j u hj
      simp only [byteCells, List.getElem?_map, Option.map_eq_some_iff] at hj
      obtain ⟨c, hc, rfl⟩ := hj
      obtain ⟨hl, hc⟩ := List.getElem?_eq_some_iff.1 hc
      obtain ⟨b', o', e, h0⟩ := hS.1 j hl
      obtain rfl : ad = ⟨b', o', none⟩ := by simpa using e
      rw [hc] at h0
      rw [Addr.add_mid]
      exact h0
    · intro u hu
      simp only [byteCells, List.mem_map] at hu
      obtain ⟨c, _, rfl⟩ := hu
      rfl
    · intro v' w' ho' hg _
      refine h v' w' ?_
      have hO : w'.ownsRow B 5 1 v' _ _ ∧ Below B W0 w' ∧ B ≤ w'.heap.size := ⟨ho', hb.2.1.grown hg hb.2.2 (fun k hk => (hb.1.lt k hk).1), Nat.le_trans hb.2.2 hg.size⟩
      unfold Own
      rw [byteCells_append, List.length_append]
      exact hO
theorem flat_ge : ∀ (l : List (Int × List UInt8)) (x : Int × List UInt8), x ∈ l → x.2.length ≤ (l.flatMap fieldB).length
  | y :: l, x, h => by
    rw [List.flatMap_cons, List.length_append]
    rcases List.mem_cons.1 h with rfl | h
    · rw [fieldB_len]; omega
    · have := flat_ge l x h; omega
/-- how long what stands in a line can be. -/
theorem line_small {k : List UInt8} {m : List (Int × List UInt8)} (h : encE k m = 0) : k.length ≤ 2048 ∧ m.length ≤ 64 ∧ ∀ x ∈ m, x.2.length ≤ 2048 := by
  unfold encE at h
  split at h
  · cases h
  · rename_i hk
    split at h
    · cases h
    · split at h
      · split at h
        · cases h
        · rename_i hl
          rw [lineB_len] at hl
          refine ⟨?_, by omega, fun x hx => ?_⟩
          · rcases (Decidable.not_not.1 hk).1 with h | h <;> omega
          · have h1 := flat_ge m x hx
            have h2 : (bodyB k m).length = (fieldB (35, k)).length + (m.flatMap fieldB).length := by unfold bodyB; simp
            omega
      · rename_i hf; exact absurd h hf
end Go.Proofs.YtjgjoohdocjpkaaGreatDoor
namespace Go.Proofs.YtjgjoohdocjpkaaGreatDoor.Msg
open Go.RowKit Go.Deep Go.Lib
set_option linter.unusedVariables false
set_option linter.unusedSimpArgs false
/-- the kind of a line. -/
def lineK (k : Int) : List UInt8 := if k = 1 then [68] else if k = 2 then [70] else if k = 3 then [71] else if k = 4 then [85, 69] else [56]
/-- a field, written. -/
def tagT (k : Int) (F : Int → Int) (t : Int) : List (Int × List UInt8) := (t, decDigits (F t).toNat) :: (if t = 34 then [(150, decDigits (k - 64).toNat)] else [])
def ltL (k : Int) (F : Int → Int) (L : List Int) : List (Int × List UInt8) := L.flatMap (tagT k F)
theorem ltL_step (k : Int) (F : Int → Int) (L : List Int) (j : Nat) (h : j < L.length) : ltL k F (L.take (j + 1)) = ltL k F (L.take j) ++ tagT k F L[j] := by
  unfold ltL
  rw [List.take_succ_eq_append_getElem h, List.flatMap_append]
  simp
theorem val_dig (n : Nat) : ValOk (decDigits n) := ⟨dec_ne n, fun c hc => by
  have := dec_dig n c hc
  unfold Dig at this
  unfold Pr
  omega⟩
theorem first_of : ∀ (r a : List (Int × List UInt8)), (∀ x ∈ r, TagOk x.1 ∧ ValOk x.2) → ((a ++ r).map (·.1)).Nodup → firstE a r = 0
  | [], a, _, _ => rfl
  | x :: r, a, h, hn => by
    have h1 : fitsE a x = 0 := by
      unfold fitsE
      rw [if_neg (not_not_intro (h x (by simp)).1)]
      have hv : val? a x.1 = none := val_none fun y hy e => by
        rw [List.map_append, List.nodup_append] at hn
        exact hn.2.2 y.1 (List.mem_map_of_mem hy) x.1 (by simp) e
      rw [hv]
      simp [(h x (by simp)).2]
    rw [firstE, if_pos h1]
    exact first_of r (a ++ [x]) (fun y hy => h y (by simp [hy])) (by simpa using hn)
theorem flat_len : ∀ (l : List (Int × List UInt8)), (∀ x ∈ l, (0 ≤ x.1 ∧ x.1 < 10000) ∧ x.2.length ≤ 20) → (l.flatMap fieldB).length ≤ 26 * l.length
  | [], _ => by simp
  | x :: l, h => by
    have h1 := flat_len l fun y hy => h y (by simp [hy])
    obtain ⟨⟨h2, h3⟩, h4⟩ := h x (by simp)
    have h5 := dec_four' x.1.toNat (by omega)
    have h6 : (fieldB x).length ≤ 26 := by
      unfold fieldB
      simp only [List.length_append, List.length_cons, List.length_nil]
      omega
    rw [List.flatMap_cons, List.length_append, List.length_cons]
    omega
def Kd (k : Int) : Prop := (1 ≤ k ∧ k ≤ 4) ∨ (65 ≤ k ∧ k ≤ 69)
theorem kd_cases {k : Int} (h : Kd k) : k = 1 ∨ k = 2 ∨ k = 3 ∨ k = 4 ∨ k = 65 ∨ k = 66 ∨ k = 67 ∨ k = 68 ∨ k = 69 := by
  unfold Kd at h
  omega
theorem lt_tags {k : Int} (h : Kd k) (F : Int → Int) : ((ltL k F (tagsL k)).map (·.1)).Nodup ∧ (ltL k F (tagsL k)).length ≤ 9 ∧ ∀ x ∈ (ltL k F (tagsL k)).map (·.1), TagOk x := by
  rcases kd_cases h with rfl | rfl | rfl | rfl | rfl | rfl | rfl | rfl | rfl
  all_goals simp [ltL, tagsL, tagT]
  all_goals decide
theorem lt_vals {k : Int} (h : Kd k) (F : Int → Int) (hF : ∀ t, Wd (F t)) : ∀ x ∈ ltL k F (tagsL k), ValOk x.2 ∧ x.2.length ≤ 20 := by
  intro x hx
  unfold ltL at hx
  obtain ⟨t, ht, hx⟩ := List.mem_flatMap.1 hx
  have h1 := hF t
  unfold Wd at h1
  have hk : 0 ≤ k ∧ k ≤ 69 := by unfold Kd at h; omega
  unfold tagT at hx
  rcases List.mem_cons.1 hx with rfl | hx
  · exact ⟨val_dig _, (dec_len _ (by simp; omega)).2⟩
  · split at hx
    · rw [List.mem_singleton] at hx
      subst hx
      exact ⟨val_dig _, (dec_len _ (by simp; omega)).2⟩
    · cases hx
theorem kindOk_line (k : Int) : KindOk (lineK k) := by
  unfold lineK
  repeat' split
  all_goals decide
theorem lineK_len (k : Int) : (lineK k).length ≤ 2 := (kindOk_line k).1.elim (fun h => by omega) (fun h => by omega)
theorem enc_line {k : Int} (h : Kd k) (F : Int → Int) (hF : ∀ t, Wd (F t)) : encE (lineK k) (ltL k F (tagsL k)) = 0 := by
  obtain ⟨h1, h2, h3⟩ := lt_tags h F
  have h4 := lt_vals h F hF
  unfold encE
  rw [if_neg (not_not_intro (kindOk_line k)), if_neg (by omega), first_of _ [] (fun x hx => ⟨h3 x.1 (List.mem_map_of_mem hx), (h4 x hx).1⟩) (by simpa using h1), if_pos rfl, if_neg]
  have h5 := flat_len (ltL k F (tagsL k)) fun x hx => ⟨by have := h3 x.1 (List.mem_map_of_mem hx); unfold TagOk at this; omega, (h4 x hx).2⟩
  have h6 := dec_four' 35 (by decide)
  have h7 := lineK_len k
  rw [lineB_len]
  have h8 : (bodyB (lineK k) (ltL k F (tagsL k))).length ≤ 500 := by
    unfold bodyB
    rw [List.length_append]
    have : (fieldB (35, lineK k)).length ≤ 8 := by
      unfold fieldB
      simp only [List.length_append, List.length_cons, List.length_nil]
      have : (decDigits (Int.toNat 35)).length ≤ 4 := h6
      omega
    omega
  have h9 := (dec_four' (bodyB (lineK k) (ltL k F (tagsL k))).length (by omega))
  rw [decDigits_length] at h9
  omega
/-- the fields of a line, as numbers. -/
def nmF (l : List (Int × List UInt8)) : Int → Int := fun t => ((numOf l t).1 : Int)
theorem nmF_wd (l : List (Int × List UInt8)) (t : Int) : Wd (nmF l t) := by
  unfold nmF numOf Wd
  split
  · simp
  · rename_i v hv
    cases hn : num v with
    | none => simp [numEnd]
    | some n =>
      have := (num_some v n hn).2
      simp only [numEnd]
      omega
/-- the kind of an input's line. -/
def inK (kind : List UInt8) : Option Int := if kind = [68] then some 1 else if kind = [70] then some 2 else if kind = [71] then some 3 else if kind = [85, 69] then some 4 else none
theorem inK_line {k : Int} (h1 : 1 ≤ k) (h4 : k ≤ 4) : inK (lineK k) = some k := by
  obtain rfl | rfl | rfl | rfl : k = 1 ∨ k = 2 ∨ k = 3 ∨ k = 4 := by omega
  all_goals rfl
theorem inK_rg {kind : List UInt8} {k : Int} (h : inK kind = some k) : 1 ≤ k ∧ k ≤ 4 ∧ kind = lineK k ∧ kind ≠ [56] := by
  unfold inK at h
  repeat' split at h
  all_goals first | (simp only [Option.some.injEq] at h; subst h; refine ⟨by decide, by decide, ?_, ?_⟩ <;> simp_all [lineK]) | cases h
/-- the kind of an event's line. -/
def evK (kind : List UInt8) (l : List (Int × List UInt8)) : Option Int :=
  if kind = [56] ∧ 2 ≤ l.length then (if (numOf ((l.drop 1).take 1) 150).2 = 0 ∧ 1 ≤ (numOf ((l.drop 1).take 1) 150).1 ∧ (numOf ((l.drop 1).take 1) 150).1 ≤ 5 then some (64 + ((numOf ((l.drop 1).take 1) 150).1 : Int)) else none) else none
theorem evK_rg {kind : List UInt8} {l : List (Int × List UInt8)} {k : Int} (h : evK kind l = some k) : 65 ≤ k ∧ k ≤ 69 ∧ kind = [56] := by
  unfold evK at h
  split at h
  · split at h
    · rename_i h1 h2
      simp only [Option.some.injEq] at h
      exact ⟨by omega, by omega, h1.1⟩
    · cases h
  · cases h
theorem F_wd (x : Inp) (hx : x.Ok) (t : Int) : Wd (x.F t) := by
  obtain ⟨h1, h2, h3, h4, h5⟩ := hx
  unfold Inp.F only
  split
  · unfold Inp.f inF upd Wd at *
    repeat' split
    all_goals first | omega | (simp only [u64]; omega)
  · simp [Wd]
end Go.Proofs.YtjgjoohdocjpkaaGreatDoor.Msg
namespace Go.Proofs.YtjgjoohdocjpkaaGreatDoor.Msg
open Go.RowKit Go.Maps Go.Deep Go.Lib
set_option linter.unusedVariables false
set_option linter.unusedSimpArgs false
set_option maxRecDepth 100000
/-- a tag of an input's fields. -/
def InTag (t : Int) : Prop := t = 11 ∨ t = 41 ∨ t = 1 ∨ t = 38 ∨ t = 210 ∨ t = 54 ∨ t = 40 ∨ t = 44 ∨ t = 9001
theorem in_tag {k t : Int} (h1 : 1 ≤ k) (h4 : k ≤ 4) (h : t ∈ tagsL k) : InTag t := by
  obtain rfl | rfl | rfl | rfl : k = 1 ∨ k = 2 ∨ k = 3 ∨ k = 4 := by omega
  all_goals simp [tagsL] at h
  all_goals unfold InTag
  all_goals omega
def Inp.set (x : Inp) (t n : Int) : Inp :=
  if t = 11 then { x with id := n } else
  if t = 41 then { x with tg := n } else
  if t = 1 then { x with me := u32 n } else
  if t = 38 then { x with qt := n } else
  if t = 210 then { x with pe := n } else
  if t = 54 then { x with si := s64 n } else
  if t = 40 then { x with ty := s64 n } else
  if t = 44 then { x with pr := s64 n } else
  if t = 9001 then { x with en := s64 n } else x

def Inp.okV (x : Inp) (t : Int) : Bool := if t = 54 then decide (0 ≤ x.si) else if t = 40 then decide (0 ≤ x.ty) else if t = 44 then decide (0 ≤ x.pr) else if t = 9001 then decide (0 ≤ x.en) else true
theorem name_any (x : Inp) (w : World) : Calls Tryz.prog 43 #[.agg x.v] w fun e w' => e = .returned (.int .i64 x.k) ∧ Below w.heap.size w w' := by
  unfold Inp.k Inp.v iV
  by_cases h2 : x.ki = 2
  · rw [if_pos h2, h2]
    go_enter Tryz.func43, Tryz.ntmps43
    go_wp2
    go_ret
    exact ⟨rfl, ball _ _⟩
  · rw [if_neg h2]
    by_cases h1 : x.ki = 1
    · by_cases c1 : 1 ≤ x.co
      · by_cases c3 : x.co ≤ 3
        · rw [if_pos ⟨h1, c1, c3⟩, h1]
          clear h2 h1
          go_enter Tryz.func43, Tryz.ntmps43
          go_wp2
          go_ret
          exact ⟨rfl, ball _ _⟩
        · rw [if_neg (fun h => c3 h.2.2), h1]
          clear h2 h1
          go_enter Tryz.func43, Tryz.ntmps43
          go_wp2
          go_ret
          exact ⟨rfl, ball _ _⟩
      · rw [if_neg (fun h => c1 h.2.1), h1]
        clear h2 h1
        go_enter Tryz.func43, Tryz.ntmps43
        go_wp2
        go_ret
        exact ⟨rfl, ball _ _⟩
    · rw [if_neg (fun h => h1 h.1)]
      go_enter Tryz.func43, Tryz.ntmps43
      go_wp2
      go_ret
      exact ⟨rfl, ball _ _⟩
def bareI (k : Int) : Inp := if k = 4 then ⟨2, 0, 0, 0, 0, 0, 0, 0, 0, 0, 0⟩ else ⟨1, k, 0, 0, 0, 0, 0, 0, 0, 0, 0⟩
theorem bare_any (k : Int) (w : World) : Calls Tryz.prog 18 #[.int .i64 k] w fun e w' => e = .returned (.agg (bareI k).v) ∧ Below w.heap.size w w' := by
  unfold bareI
  by_cases h : k = 4
  · rw [if_pos h, h]
    clear h
    go_enter Tryz.func18, Tryz.ntmps18
    go_wp2
    exact bodyPost_ret (results_cell_row (fn := Tryz.f18) Tryz.results18 _ _ w.heap.size 29 (iV 2 0 0 0 0 0 0 0 0 0 0) (0, 0) _ (by rfl) (heap_alloc_new _ _) Tryz.underlying29 rfl info27) rfl ⟨rfl, ball _ _⟩
  · rw [if_neg h]
    go_enter Tryz.func18, Tryz.ntmps18
    go_wp2
    exact bodyPost_ret (results_cell_row (fn := Tryz.f18) Tryz.results18 _ _ w.heap.size 29 (iV 1 k 0 0 0 0 0 0 0 0 0) (0, 0) _ (by rfl) (heap_alloc_new _ _) Tryz.underlying29 rfl info27) rfl ⟨rfl, ball _ _⟩
set_option maxHeartbeats 2000000 in
set_option maxRecDepth 100000 in
theorem value_any (x : Inp) (hx : x.Ok) (t : Int) (ht : InTag t) (w : World) : Calls Tryz.prog 64 #[.agg x.v, .int .i64 t] w fun e w' => e = .returned (.tuple #[.int .u64 (x.f t), .bool (x.okV t)]) ∧ Below w.heap.size w w' := by
  unfold InTag at ht
  unfold Inp.v iV
  obtain ⟨m0, m1⟩ := hx.me
  clear hx
  rcases ht with rfl | rfl | rfl | rfl | rfl | rfl | rfl | rfl | rfl
  · have e : x.okV 11 = true := by simp [Inp.okV]
    rw [e]
    clear e
    go_enter Tryz.func64, Tryz.ntmps64
    go_wp2
    go_ret2
    exact ⟨rfl, btr (ball _ _) (ball _ _)⟩
  · have e : x.okV 41 = true := by simp [Inp.okV]
    rw [e]
    clear e
    go_enter Tryz.func64, Tryz.ntmps64
    go_wp2
    go_ret2
    exact ⟨rfl, btr (ball _ _) (ball _ _)⟩
  · have e : x.okV 1 = true := by simp [Inp.okV]
    rw [e]
    clear e
    go_enter Tryz.func64, Tryz.ntmps64
    go_wp2
    go_ret2
    exact ⟨rfl, btr (ball _ _) (ball _ _)⟩
  · have e : x.okV 38 = true := by simp [Inp.okV]
    rw [e]
    clear e
    go_enter Tryz.func64, Tryz.ntmps64
    go_wp2
    go_ret2
    exact ⟨rfl, btr (ball _ _) (ball _ _)⟩
  · have e : x.okV 210 = true := by simp [Inp.okV]
    rw [e]
    clear e
    go_enter Tryz.func64, Tryz.ntmps64
    go_wp2
    go_ret2
    exact ⟨rfl, btr (ball _ _) (ball _ _)⟩
  · by_cases h0 : 0 ≤ x.si
    · have e : x.okV 54 = true := by simp [Inp.okV, h0]
      rw [e]
      clear e
      go_enter Tryz.func64, Tryz.ntmps64
      go_wp2
      go_ret2
      exact ⟨rfl, btr (ball _ _) (ball _ _)⟩
    · have e : x.okV 54 = false := by simp [Inp.okV, h0]
      rw [e]
      clear e
      go_enter Tryz.func64, Tryz.ntmps64
      go_wp2
      go_ret2
      exact ⟨rfl, btr (ball _ _) (ball _ _)⟩
  · by_cases h0 : 0 ≤ x.ty
    · have e : x.okV 40 = true := by simp [Inp.okV, h0]
      rw [e]
      clear e
      go_enter Tryz.func64, Tryz.ntmps64
      go_wp2
      go_ret2
      exact ⟨rfl, btr (ball _ _) (ball _ _)⟩
    · have e : x.okV 40 = false := by simp [Inp.okV, h0]
      rw [e]
      clear e
      go_enter Tryz.func64, Tryz.ntmps64
      go_wp2
      go_ret2
      exact ⟨rfl, btr (ball _ _) (ball _ _)⟩
  · by_cases h0 : 0 ≤ x.pr
    · have e : x.okV 44 = true := by simp [Inp.okV, h0]
      rw [e]
      clear e
      go_enter Tryz.func64, Tryz.ntmps64
      go_wp2
      go_ret2
      exact ⟨rfl, btr (ball _ _) (ball _ _)⟩
    · have e : x.okV 44 = false := by simp [Inp.okV, h0]
      rw [e]
      clear e
      go_enter Tryz.func64, Tryz.ntmps64
      go_wp2
      go_ret2
      exact ⟨rfl, btr (ball _ _) (ball _ _)⟩
  · by_cases h0 : 0 ≤ x.en
    · have e : x.okV 9001 = true := by simp [Inp.okV, h0]
      rw [e]
      clear e
      go_enter Tryz.func64, Tryz.ntmps64
      go_wp2
      go_ret2
      exact ⟨rfl, btr (ball _ _) (ball _ _)⟩
    · have e : x.okV 9001 = false := by simp [Inp.okV, h0]
      rw [e]
      clear e
      go_enter Tryz.func64, Tryz.ntmps64
      go_wp2
      go_ret2
      exact ⟨rfl, btr (ball _ _) (ball _ _)⟩

set_option maxHeartbeats 2000000 in
set_option maxRecDepth 100000 in
theorem with_any (x : Inp) (t n : Int) (ht : InTag t) (w : World) : Calls Tryz.prog 21 #[.agg x.v, .int .i64 t, .int .u64 n] w fun e w' => e = .returned (.agg (x.set t n).v) ∧ Below w.heap.size w w' := by
  unfold InTag at ht
  unfold Inp.v iV
  rcases ht with rfl | rfl | rfl | rfl | rfl | rfl | rfl | rfl | rfl
  · go_enter Tryz.func21, Tryz.ntmps21
    go_wp2
    exact bodyPost_ret (results_cell_row (fn := Tryz.f21) Tryz.results21 _ _ (w.heap.size + 1) 29 (x.set 11 n).v (0, 0) _ (by rfl) (heap2 _ _ _) Tryz.underlying29 rfl info27) rfl ⟨rfl, btr (ball _ _) (ball _ _)⟩
  · go_enter Tryz.func21, Tryz.ntmps21
    go_wp2
    exact bodyPost_ret (results_cell_row (fn := Tryz.f21) Tryz.results21 _ _ (w.heap.size + 1) 29 (x.set 41 n).v (0, 0) _ (by rfl) (heap2 _ _ _) Tryz.underlying29 rfl info27) rfl ⟨rfl, btr (ball _ _) (ball _ _)⟩
  · go_enter Tryz.func21, Tryz.ntmps21
    go_wp2
    exact bodyPost_ret (results_cell_row (fn := Tryz.f21) Tryz.results21 _ _ (w.heap.size + 1) 29 (x.set 1 n).v (0, 0) _ (by rfl) (heap2 _ _ _) Tryz.underlying29 rfl info27) rfl ⟨rfl, btr (ball _ _) (ball _ _)⟩
  · go_enter Tryz.func21, Tryz.ntmps21
    go_wp2
    exact bodyPost_ret (results_cell_row (fn := Tryz.f21) Tryz.results21 _ _ (w.heap.size + 1) 29 (x.set 38 n).v (0, 0) _ (by rfl) (heap2 _ _ _) Tryz.underlying29 rfl info27) rfl ⟨rfl, btr (ball _ _) (ball _ _)⟩
  · go_enter Tryz.func21, Tryz.ntmps21
    go_wp2
    exact bodyPost_ret (results_cell_row (fn := Tryz.f21) Tryz.results21 _ _ (w.heap.size + 1) 29 (x.set 210 n).v (0, 0) _ (by rfl) (heap2 _ _ _) Tryz.underlying29 rfl info27) rfl ⟨rfl, btr (ball _ _) (ball _ _)⟩
  · go_enter Tryz.func21, Tryz.ntmps21
    go_wp2
    exact bodyPost_ret (results_cell_row (fn := Tryz.f21) Tryz.results21 _ _ (w.heap.size + 1) 29 (x.set 54 n).v (0, 0) _ (by rfl) (heap2 _ _ _) Tryz.underlying29 rfl info27) rfl ⟨rfl, btr (ball _ _) (ball _ _)⟩
  · go_enter Tryz.func21, Tryz.ntmps21
    go_wp2
    exact bodyPost_ret (results_cell_row (fn := Tryz.f21) Tryz.results21 _ _ (w.heap.size + 1) 29 (x.set 40 n).v (0, 0) _ (by rfl) (heap2 _ _ _) Tryz.underlying29 rfl info27) rfl ⟨rfl, btr (ball _ _) (ball _ _)⟩
  · go_enter Tryz.func21, Tryz.ntmps21
    go_wp2
    exact bodyPost_ret (results_cell_row (fn := Tryz.f21) Tryz.results21 _ _ (w.heap.size + 1) 29 (x.set 44 n).v (0, 0) _ (by rfl) (heap2 _ _ _) Tryz.underlying29 rfl info27) rfl ⟨rfl, btr (ball _ _) (ball _ _)⟩
  · go_enter Tryz.func21, Tryz.ntmps21
    go_wp2
    exact bodyPost_ret (results_cell_row (fn := Tryz.f21) Tryz.results21 _ _ (w.heap.size + 1) 29 (x.set 9001 n).v (0, 0) _ (by rfl) (heap2 _ _ _) Tryz.underlying29 rfl info27) rfl ⟨rfl, btr (ball _ _) (ball _ _)⟩

end Go.Proofs.YtjgjoohdocjpkaaGreatDoor.Msg
namespace Go.Proofs.YtjgjoohdocjpkaaGreatDoor.Msg
open Go.RowKit Go.Maps Go.Deep Go.Lib
set_option linter.unusedVariables false
set_option linter.unusedSimpArgs false
set_option maxRecDepth 100000
def most (t : Int) : Int := if bnd t = 18446744073709551615 then 0 else bnd t
/-- fields in a row of memory. -/
def Sf (w : World) (q : Option Addr) (k : Int) (l : List Int) : Prop := ∀ i (h : i < l.length), ∃ b o, q = some ⟨b, o, none⟩ ∧ w.cell? ⟨b, o + i * 4, none⟩ = some (.int .i64 l[i]) ∧ w.cell? ⟨b, o + i * 4 + 1, none⟩ = some (.int .u64 (most l[i])) ∧ w.cell? ⟨b, o + i * 4 + 2, none⟩ = some (.int .i64 (plW k l[i])) ∧ w.cell? ⟨b, o + i * 4 + 3, none⟩ = some (.int .i64 (plB l[i]))
theorem Sf.on {w w' : World} {q : Option Addr} {k : Int} {l : List Int} (h : Sf w q k l) (hb : Below w.heap.size w w') : Sf w' q k l := fun i hi => by
  obtain ⟨b, o, e, h0, h1, h2, h3⟩ := h i hi
  exact ⟨b, o, e, (hb.cell (cell_lt h0)).trans h0, (hb.cell (cell_lt h1)).trans h1, (hb.cell (cell_lt h2)).trans h2, (hb.cell (cell_lt h3)).trans h3⟩
def fc (k t : Int) : List Value := [.int .i64 t, .int .u64 (most t), .int .i64 (plW k t), .int .i64 (plB t)]
theorem fc_at (k : Int) : ∀ (l : List Int) (i : Nat) (h : i < l.length) (j : Nat), j < 4 → (l.flatMap (fc k))[i * 4 + j]? = (fc k l[i])[j]?
  | x :: l, 0, h, j, hj => by
    rw [List.flatMap_cons, List.getElem?_append_left (by simp [fc]; omega)]
    simp
  | x :: l, i + 1, h, j, hj => by
    rw [List.flatMap_cons, List.getElem?_append_right (by simp [fc]; omega)]
    have e : (i + 1) * 4 + j - (fc k x).length = i * 4 + j := by simp [fc]; omega
    rw [e, fc_at k l i (by simpa using h) j hj]
    simp
theorem sf_new (k : Int) (w : World) (g : Nat) (cs : Array Value) (l : List Int) (hg : w.heap.size = g) (h : cs.toList = l.flatMap (fc k)) : Sf (w.alloc (.cells cs 59)) (some ⟨g, 0, none⟩) k l := by
  subst hg
  intro i hi
  have c : ∀ j, j < 4 → (w.alloc (.cells cs 59)).cell? ⟨w.heap.size, 0 + i * 4 + j, none⟩ = (fc k l[i])[j]? := by
    intro j hj
    rw [Nat.zero_add, World.cell?_alloc_new, ← Array.getElem?_toList, h]
    exact fc_at k l i hi j hj
  exact ⟨w.heap.size, 0, rfl, c 0 (by omega), c 1 (by omega), c 2 (by omega), c 3 (by omega)⟩
def FldP (k : Int) (w : World) (e : Ending) (w' : World) : Prop := ∃ q cap, e = .returned (.slice q (tagsL k).length cap) ∧ Sf w' q k (tagsL k) ∧ Below w.heap.size w w'
set_option maxHeartbeats 1000000 in
set_option maxRecDepth 100000 in
theorem fields_any (k : Int) (h1 : 1 ≤ k) (h4 : k ≤ 4) (w : World) : Calls Tryz.prog 19 #[.int .i64 k] w fun e w' => FldP k w e w' := by
  obtain rfl | rfl | rfl | rfl : k = 1 ∨ k = 2 ∨ k = 3 ∨ k = 4 := by omega
  · go_enter Tryz.func19, Tryz.ntmps19
    go_wp2
    go_ret
    exact ⟨some ⟨w.heap.size + 1 + 1 + 1 + 1 + 1, 0, none⟩, 7, rfl, sf_new 1 _ _ _ (tagsL 1) (by simp) rfl, btr (btr (btr (btr (btr (ball _ _) (ball _ _)) (ball _ _)) (ball _ _)) (ball _ _)) (ball _ _)⟩
  · go_enter Tryz.func19, Tryz.ntmps19
    go_wp2
    go_ret
    exact ⟨some ⟨w.heap.size + 1 + 1 + 1 + 1 + 1, 0, none⟩, 1, rfl, sf_new 2 _ _ _ (tagsL 2) (by simp) rfl, btr (btr (btr (btr (btr (ball _ _) (ball _ _)) (ball _ _)) (ball _ _)) (ball _ _)) (ball _ _)⟩
  · go_enter Tryz.func19, Tryz.ntmps19
    go_wp2
    go_ret
    exact ⟨some ⟨w.heap.size + 1 + 1 + 1 + 1 + 1, 0, none⟩, 5, rfl, sf_new 3 _ _ _ (tagsL 3) (by simp) rfl, btr (btr (btr (btr (btr (ball _ _) (ball _ _)) (ball _ _)) (ball _ _)) (ball _ _)) (ball _ _)⟩
  · go_enter Tryz.func19, Tryz.ntmps19
    go_wp2
    go_ret
    exact ⟨some ⟨w.heap.size + 1 + 1 + 1 + 1 + 1, 0, none⟩, 1, rfl, sf_new 4 _ _ _ (tagsL 4) (by simp) rfl, btr (btr (btr (btr (btr (ball _ _) (ball _ _)) (ball _ _)) (ball _ _)) (ball _ _)) (ball _ _)⟩

/-- words in a row of memory. -/
def Su (w : World) (q : Option Addr) (l : List Int) : Prop := ∀ i (h : i < l.length), ∃ b o, q = some ⟨b, o, none⟩ ∧ w.cell? ⟨b, o + i, none⟩ = some (.int .u64 l[i])
theorem Su.on {w w' : World} {q : Option Addr} {l : List Int} (h : Su w q l) (hb : Below w.heap.size w w') : Su w' q l := fun i hi => by
  obtain ⟨b, o, e, hc⟩ := h i hi
  exact ⟨b, o, e, (hb.cell (cell_lt hc)).trans hc⟩
end Go.Proofs.YtjgjoohdocjpkaaGreatDoor.Msg
namespace Go.Proofs.YtjgjoohdocjpkaaGreatDoor.Msg
open Go.RowKit Go.Maps Go.Deep Go.Lib
set_option linter.unusedVariables false
set_option linter.unusedSimpArgs false
set_option maxRecDepth 100000
def good (x : Inp) (t : Int) : Bool := x.okV t && (decide (most t = 0) || decide (x.f t ≤ most t))
def agn (x : Inp) (k : Int) (L : List Int) : Inp := L.foldl (fun y t => y.set t (x.f t)) (bareI k)
theorem agn_step (x : Inp) (k : Int) (L : List Int) (j : Nat) (h : j < L.length) : agn x k (L.take (j + 1)) = (agn x k (L.take j)).set L[j] (x.f L[j]) := by
  unfold agn
  rw [List.take_succ_eq_append_getElem h, List.foldl_append]
  rfl
theorem grown_of {w w' : World} (hb : Below w.heap.size w w') : w.grownBy w' none := ⟨hb.os, hb.tape, hb.output, hb.size, fun i hi _ => hb.block i hi⟩
theorem most_nn (t : Int) : 0 ≤ most t := by
  unfold most bnd
  repeat' split
  all_goals omega
structure VaR (w : World) (x : Inp) (k : Int) (q : Option Addr) (L : List Int) (A B j : Nat) (v : Value) (wr : World) : Prop where
  i : wr.heap[w.heap.size]? = some (.cells x.v 29 (0, 0))
  a : wr.heap[A]? = some (.cells (agn x k (L.take j)).v 29 (0, 0))
  s : Sf wr q k L
  o : wr.ownsRow B 24 1 v j (uv ((L.take j).map x.f))
  bel : Below w.heap.size w wr
  bs : B ≤ wr.heap.size
  g : (L.take j).all (good x) = true
theorem VaR.below {w wr w' : World} {x : Inp} {k : Int} {q : Option Addr} {L : List Int} {A B j : Nat} {v : Value} (h : VaR w x k q L A B j v wr) (hb : Below wr.heap.size wr w') : VaR w x k q L A B j v w' :=
  ⟨row_on h.i hb, row_on h.a hb, h.s.on hb, h.o.kept (grown_of hb) (by cases v.ownBlock <;> simp), btr h.bel hb, Nat.le_trans h.bs hb.size, h.g⟩
theorem VaR.drew {w wr : World} {x : Inp} {k : Int} {q : Option Addr} {L : List Int} {A B j : Nat} {v : Value} (h : VaR w x k q L A B j v wr) : VaR w x k q L A B j v wr.drew := h.below ⟨rfl, rfl, rfl, Nat.le_refl _, fun _ _ => rfl⟩
theorem bad_of {l : List Int} {g : Int → Bool} {p : Prop} (h : l.all g = false) : ¬ (l.all g = true ∧ p) := fun e => by rw [h] at e; exact absurd e.1 (by simp)
theorem frz_I {w : World} {g : Nat} {cs : Array Value} (h : w.heap[g]? = some (.cells cs 29 (0, 0))) : w.frozen? ⟨g, 0, none⟩ = false ∧ w.frozen? ⟨g, 1, none⟩ = false ∧ w.frozen? ⟨g, 2, none⟩ = false ∧ w.frozen? ⟨g, 3, none⟩ = false ∧ w.frozen? ⟨g, 4, none⟩ = false ∧ w.frozen? ⟨g, 5, none⟩ = false ∧ w.frozen? ⟨g, 6, none⟩ = false ∧ w.frozen? ⟨g, 7, none⟩ = false ∧ w.frozen? ⟨g, 8, none⟩ = false ∧ w.frozen? ⟨g, 9, none⟩ = false ∧ w.frozen? ⟨g, 10, none⟩ = false :=
  ⟨frozen_of_row w g 0 _ 29 h, frozen_of_row w g 1 _ 29 h, frozen_of_row w g 2 _ 29 h, frozen_of_row w g 3 _ 29 h, frozen_of_row w g 4 _ 29 h, frozen_of_row w g 5 _ 29 h, frozen_of_row w g 6 _ 29 h, frozen_of_row w g 7 _ 29 h, frozen_of_row w g 8 _ 29 h, frozen_of_row w g 9 _ 29 h, frozen_of_row w g 10 _ 29 h⟩
theorem addr_inj {b o b' o' : Nat} (h : some (⟨b, o, none⟩ : Addr) = some ⟨b', o', none⟩) : b = b' ∧ o = o' := by simpa using h
def ValP (x : Inp) (w : World) (e : Ending) (w' : World) : Prop := Below w.heap.size w w' ∧
  ((¬ ((tagsL x.k).all (good x) = true ∧ (agn x x.k (tagsL x.k)).v = x.v) ∧ e = .returned (.tuple #[.slice none 0 0, .int .i64 40])) ∨
   (((tagsL x.k).all (good x) = true ∧ (agn x x.k (tagsL x.k)).v = x.v) ∧ ∃ p cp, e = .returned (.tuple #[.slice p (tagsL x.k).length cp, .int .i64 0]) ∧ Su w' p ((tagsL x.k).map x.f)))
theorem st11 (w : World) (A : Nat) (o y : Inp) (h : w.heap[A]? = some (.cells o.v 29 (0, 0))) : ∃ W, (((((((((((w.setCell ⟨A, 0, none⟩ (.int .i64 y.ki)).setCell ⟨A, 1, none⟩ (.int .i64 y.co)).setCell ⟨A, 2, none⟩ (.int .u64 y.id)).setCell ⟨A, 3, none⟩ (.int .u64 y.tg)).setCell ⟨A, 4, none⟩ (.int .u32 y.me)).setCell ⟨A, 5, none⟩ (.int .i64 y.si)).setCell ⟨A, 6, none⟩ (.int .i64 y.ty)).setCell ⟨A, 7, none⟩ (.int .i64 y.pr)).setCell ⟨A, 8, none⟩ (.int .u64 y.qt)).setCell ⟨A, 9, none⟩ (.int .u64 y.pe)).setCell ⟨A, 10, none⟩ (.int .i64 y.en)) = W ∧ St w A 29 y.v W := by
  have h1 := heap_setCell_same w A 0 _ 29 (.int .i64 y.ki) h
  have h2 := heap_setCell_same (w.setCell ⟨A, 0, none⟩ (.int .i64 y.ki)) A 1 _ 29 (.int .i64 y.co) h1
  have h3 := heap_setCell_same ((w.setCell ⟨A, 0, none⟩ (.int .i64 y.ki)).setCell ⟨A, 1, none⟩ (.int .i64 y.co)) A 2 _ 29 (.int .u64 y.id) h2
  have h4 := heap_setCell_same (((w.setCell ⟨A, 0, none⟩ (.int .i64 y.ki)).setCell ⟨A, 1, none⟩ (.int .i64 y.co)).setCell ⟨A, 2, none⟩ (.int .u64 y.id)) A 3 _ 29 (.int .u64 y.tg) h3
  have h5 := heap_setCell_same ((((w.setCell ⟨A, 0, none⟩ (.int .i64 y.ki)).setCell ⟨A, 1, none⟩ (.int .i64 y.co)).setCell ⟨A, 2, none⟩ (.int .u64 y.id)).setCell ⟨A, 3, none⟩ (.int .u64 y.tg)) A 4 _ 29 (.int .u32 y.me) h4
  have h6 := heap_setCell_same (((((w.setCell ⟨A, 0, none⟩ (.int .i64 y.ki)).setCell ⟨A, 1, none⟩ (.int .i64 y.co)).setCell ⟨A, 2, none⟩ (.int .u64 y.id)).setCell ⟨A, 3, none⟩ (.int .u64 y.tg)).setCell ⟨A, 4, none⟩ (.int .u32 y.me)) A 5 _ 29 (.int .i64 y.si) h5
  have h7 := heap_setCell_same ((((((w.setCell ⟨A, 0, none⟩ (.int .i64 y.ki)).setCell ⟨A, 1, none⟩ (.int .i64 y.co)).setCell ⟨A, 2, none⟩ (.int .u64 y.id)).setCell ⟨A, 3, none⟩ (.int .u64 y.tg)).setCell ⟨A, 4, none⟩ (.int .u32 y.me)).setCell ⟨A, 5, none⟩ (.int .i64 y.si)) A 6 _ 29 (.int .i64 y.ty) h6
  have h8 := heap_setCell_same (((((((w.setCell ⟨A, 0, none⟩ (.int .i64 y.ki)).setCell ⟨A, 1, none⟩ (.int .i64 y.co)).setCell ⟨A, 2, none⟩ (.int .u64 y.id)).setCell ⟨A, 3, none⟩ (.int .u64 y.tg)).setCell ⟨A, 4, none⟩ (.int .u32 y.me)).setCell ⟨A, 5, none⟩ (.int .i64 y.si)).setCell ⟨A, 6, none⟩ (.int .i64 y.ty)) A 7 _ 29 (.int .i64 y.pr) h7
  have h9 := heap_setCell_same ((((((((w.setCell ⟨A, 0, none⟩ (.int .i64 y.ki)).setCell ⟨A, 1, none⟩ (.int .i64 y.co)).setCell ⟨A, 2, none⟩ (.int .u64 y.id)).setCell ⟨A, 3, none⟩ (.int .u64 y.tg)).setCell ⟨A, 4, none⟩ (.int .u32 y.me)).setCell ⟨A, 5, none⟩ (.int .i64 y.si)).setCell ⟨A, 6, none⟩ (.int .i64 y.ty)).setCell ⟨A, 7, none⟩ (.int .i64 y.pr)) A 8 _ 29 (.int .u64 y.qt) h8
  have h10 := heap_setCell_same (((((((((w.setCell ⟨A, 0, none⟩ (.int .i64 y.ki)).setCell ⟨A, 1, none⟩ (.int .i64 y.co)).setCell ⟨A, 2, none⟩ (.int .u64 y.id)).setCell ⟨A, 3, none⟩ (.int .u64 y.tg)).setCell ⟨A, 4, none⟩ (.int .u32 y.me)).setCell ⟨A, 5, none⟩ (.int .i64 y.si)).setCell ⟨A, 6, none⟩ (.int .i64 y.ty)).setCell ⟨A, 7, none⟩ (.int .i64 y.pr)).setCell ⟨A, 8, none⟩ (.int .u64 y.qt)) A 9 _ 29 (.int .u64 y.pe) h9
  have h11 := heap_setCell_same ((((((((((w.setCell ⟨A, 0, none⟩ (.int .i64 y.ki)).setCell ⟨A, 1, none⟩ (.int .i64 y.co)).setCell ⟨A, 2, none⟩ (.int .u64 y.id)).setCell ⟨A, 3, none⟩ (.int .u64 y.tg)).setCell ⟨A, 4, none⟩ (.int .u32 y.me)).setCell ⟨A, 5, none⟩ (.int .i64 y.si)).setCell ⟨A, 6, none⟩ (.int .i64 y.ty)).setCell ⟨A, 7, none⟩ (.int .i64 y.pr)).setCell ⟨A, 8, none⟩ (.int .u64 y.qt)).setCell ⟨A, 9, none⟩ (.int .u64 y.pe)) A 10 _ 29 (.int .i64 y.en) h10
  refine ⟨_, rfl, ⟨?_, fun b hb => ?_, by simp, fun B W0 hb hB => ?_⟩⟩
  · rw [h11]
    simp [Inp.v, iV]
  · rw [heap_setCell_other _ _ _ _ (by exact hb), heap_setCell_other _ _ _ _ (by exact hb), heap_setCell_other _ _ _ _ (by exact hb), heap_setCell_other _ _ _ _ (by exact hb), heap_setCell_other _ _ _ _ (by exact hb), heap_setCell_other _ _ _ _ (by exact hb), heap_setCell_other _ _ _ _ (by exact hb), heap_setCell_other _ _ _ _ (by exact hb), heap_setCell_other _ _ _ _ (by exact hb), heap_setCell_other _ _ _ _ (by exact hb), heap_setCell_other _ _ _ _ (by exact hb)]
  · exact (((((((((((hb.setCell (by exact hB) _).setCell (by exact hB) _).setCell (by exact hB) _).setCell (by exact hB) _).setCell (by exact hB) _).setCell (by exact hB) _).setCell (by exact hB) _).setCell (by exact hB) _).setCell (by exact hB) _).setCell (by exact hB) _).setCell (by exact hB) _)
theorem St.grown {w w' : World} {g : Nat} {t : TypeId} {cs : Array Value} (h : St w g t cs w') : w.grownBy w' (some g) := by
  have hb := h.bel g w (Below.refl _ _) (Nat.le_refl _)
  exact ⟨hb.os, hb.tape, hb.output, by rw [h.siz]; exact Nat.le_refl _, fun i _ hi => h.oth i (fun e => hi (by rw [e]))⟩
theorem info22all : (Tryz.prog.info? 24).map (fun i => (i.zero, i.size, i.bytes)) = some (some (.int .u64 0), 1, 8) := by kernel_rfl
theorem own_app (w0 : World) {ops : Array Oper} {rest : List Oper} {o : Oper} {a : Act} {Q : Exit → Act → World → Prop} (hgd : o.guard = none) (sl xx : Operand)
    (ho : o.op = .call { callee := .builtin .append, args := #[sl, xx], argTypes := #[87, 87] }) (B : Nat) (v : Value) (l : List Int) (n : Nat) (hs : a.eval sl = v) (hown : w0.ownsRow B 24 1 v n (uv l)) (c : Int) (hx : a.eval xx = .slice (some ⟨w0.heap.size, 0, none⟩) 1 1) (hl : n < 100) (hB : B ≤ w0.heap.size)
    (h : ∀ v' w', w'.ownsRow B 24 1 v' (n + 1) (uv (l ++ [c])) → (w0.alloc (.cells #[.int .u64 c] 24)).grownBy w' v.ownBlock → wpList Tryz.prog ops Q rest (a.put o.dst v') w') : wpList Tryz.prog ops Q (o :: rest) a (w0.alloc (.cells #[.int .u64 c] 24)) := by
  obtain ⟨i0, hi, hz0, hz1, hz2⟩ := info_parts info22all
  refine wpList_append_own _ hgd sl xx 87 ho B 24 i0 (.int .u64 0) 1 8 Tryz.underlying87 hi hz0 hz1 hz2 rfl (by decide) v n _ hs (hown.alloc _) ⟨w0.heap.size, 0, none⟩ 1 1 [.int .u64 c] hx rfl (cell_one_new _ _ _) (fun u hu => by simp at hu; subst hu; rfl) (by unfold maxLen; omega) (by omega) (by simp; omega) ?_
  intro v' w' h1 h2 _
  refine h v' w' ?_ h2
  have e : uv (l ++ [c]) = uv l ++ [.int .u64 c] := by simp [uv]
  rw [e]
  exact h1
theorem own_su {w : World} {B n : Nat} {v : Value} {l : List Int} (h : w.ownsRow B 24 1 v n (uv l)) : ∃ p cp, v = .slice p n cp ∧ Su w p l := by
  rcases h.2 with ⟨e, hn⟩ | ⟨g, cap, cur, e, hB, hg, h5, h6, h7, h8⟩
  · refine ⟨none, 0, by rw [e, hn], fun i hi => ?_⟩
    have := h.1
    simp [uv] at this
    omega
  · refine ⟨some ⟨g, 0, none⟩, cap, e, fun i hi => ⟨g, 0, rfl, ?_⟩⟩
    have h9 := h.cells (g := g) (by rw [e]; rfl) i (.int .u64 l[i]) (by simp [uv, hi])
    have hadd : (⟨g, 0, none⟩ : Addr).add i = ⟨g, 0 + i, none⟩ := by unfold Addr.add; split <;> simp_all
    rw [hadd] at h9
    exact h9
theorem VaR.next {w w1 w2 W3 W4 : World} {x : Inp} {k : Int} {qb qo : Nat} {L : List Int} {A j : Nat} {v v' : Value} {c : Int} (h : VaR w x k (some ⟨qb, qo, none⟩) L A (A + 1) j v w1) (hb : Below w1.heap.size w1 w2) (hs : St w2 A 29 (agn x k (L.take (j + 1))).v W3)
    (hg : (W3.alloc (.cells #[.int .u64 c] 24)).grownBy W4 v.ownBlock) (ho : W4.ownsRow (A + 1) 24 1 v' (j + 1) (uv ((L.take (j + 1)).map x.f))) (hWA : w.heap.size < A) (hq : qb < A) (hgd : (L.take (j + 1)).all (good x) = true) : VaR w x k (some ⟨qb, qo, none⟩) L A (A + 1) (j + 1) v' W4 := by
  have hown : ∀ b, b < A + 1 → some b ≠ v.ownBlock := fun b hlt e => by
    have := (h.o.lt b e.symm).1
    omega
  have h2 := h.below hb
  have hrow : ∀ b o', b < A + 1 → (W3.alloc (.cells #[.int .u64 c] 24)).heap[b]? = some o' → W4.heap[b]? = some o' := fun b o' hlt e => by
    rw [hg.block b (row_lt e) (hown b hlt)]
    exact e
  refine ⟨hrow _ _ (by omega) (row_on ((hs.oth _ (by omega)).trans h2.i) (ball _ _)), hrow _ _ (by omega) (row_on hs.row (ball _ _)), ?_, ho, ?_, ?_, hgd⟩
  · intro i hi
    obtain ⟨b, o', e, c0, c1, c2, c3⟩ := h2.s i hi
    obtain ⟨rfl, rfl⟩ := addr_inj e
    have hc : ∀ j u, w2.cell? ⟨qb, j, none⟩ = some u → W4.cell? ⟨qb, j, none⟩ = some u := fun j u hu => by
      have h3 := hs.cell (b := qb) (by omega) hu
      have h4 := ((ball W3 (.cells #[.int .u64 c] 24)).cell (cell_lt h3)).trans h3
      have h5 := hg.block qb (cell_lt h4) (hown qb (by omega))
      unfold World.cell? at h4 ⊢
      simp only [h5]
      exact h4
    exact ⟨qb, qo, rfl, hc _ _ c0, hc _ _ c1, hc _ _ c2, hc _ _ c3⟩
  · refine (btr (hs.bel _ _ h2.bel (by omega)) (ball _ _)).grown hg ?_ (fun i hi => ?_)
    · have := h2.bel.size
      have e3 := hs.siz
      simp
      omega
    · have := (h.o.lt i hi).1
      omega
  · have e3 := hs.siz
    have e4 := hg.size
    have := h2.bs
    simp at e4
    omega

set_option maxHeartbeats 4000000 in
set_option maxRecDepth 100000 in
theorem values_any (x : Inp) (hx : x.Ok) (w : World) (h0 : 1 ≤ x.k) (h4 : x.k ≤ 4) :
    Calls Tryz.prog 42 #[.agg x.v] w fun e w' => ValP x w e w' := by
  have hne : ¬ x.k = 0 := by omega
  have NA := hid (fun w => name_any x w)
  have FA := hid (fun w => fields_any x.k h0 h4 w)
  have BA := hid (fun w => bare_any x.k w)
  have VA := hid (fun t ht w => value_any x hx t ht w)
  have HIT := hid (fun t ht => in_tag (t := t) h0 h4 ht)
  have hlen := tags_len x.k
  have HMN := hid most_nn
  have HI := hid (show (w.alloc (.cells x.v 29)).heap[w.heap.size]? = some (.cells x.v 29 (0, 0)) from heap_alloc_new _ _)
  obtain ⟨k, hk⟩ : ∃ k, x.k = k := ⟨_, rfl⟩
  rw [hk] at NA FA BA HIT hlen hne
  have HK := hid hk
  clear hk h0 h4 hx
  obtain ⟨L, hL⟩ : ∃ l, tagsL k = l := ⟨_, rfl⟩
  unfold FldP at FA
  rw [hL] at HIT hlen FA
  have HP := hid (show ∀ e w', (Below w.heap.size w w' ∧
    ((¬ (L.all (good x) = true ∧ (agn x k L).v = x.v) ∧ e = .returned (.tuple #[.slice none 0 0, .int .i64 40])) ∨
     ((L.all (good x) = true ∧ (agn x k L).v = x.v) ∧ ∃ p cp, e = .returned (.tuple #[.slice p L.length cp, .int .i64 0]) ∧ Su w' p (L.map x.f)))) → ValP x w e w' by
    intro e w' h
    unfold ValP
    rw [HK.out, hL]
    exact h)
  clear hL
  unfold Inp.v iV at NA HI
  unfold Inp.v iV
  go_enter Tryz.func42, Tryz.ntmps42
  go_wp2_with (first | (go_at_call 43; refine (NA.out _).mono ?_; rintro e w2 ⟨rfl, hb⟩; have HB2 := hid hb; clear hb; refine Hid.out ?_))
  have HI2 := hid (row_on HI.out HB2.out)
  have HBW2 := hid (btr (ball _ _) HB2.out)
  clear HI HB2 NA
  refine hid ?_
  go_wp2_with (first | (go_at_call 19; refine (FA.out _).mono ?_; rintro e w3 ⟨q, cap, rfl, hS, hb⟩; have HB3 := hid hb; have HS3 := hid hS; clear hb hS; refine Hid.out ?_))
  have HI3 := hid (row_on HI2.out HB3.out)
  have HBW3 := hid (btr HBW2.out HB3.out)
  clear HI2 HBW2 HB3 FA
  refine hid ?_
  go_wp2_with (first | (go_at_call 18; refine (BA.out _).mono ?_; rintro e w4 ⟨rfl, hb⟩; have HB4 := hid hb; clear hb; refine Hid.out ?_))
  have HI5 := hid (show (w4.alloc (.cells (bareI k).v 29)).heap[w.heap.size]? = some (.cells x.v 29 (0, 0)) from row_on (row_on HI3.out HB4.out) (ball _ _))
  have HBW5 := hid (show Below w.heap.size w (w4.alloc (.cells (bareI k).v 29)) from btr (btr HBW3.out HB4.out) (ball _ _))
  have HS5 := hid (show Sf (w4.alloc (.cells (bareI k).v 29)) q k L from (HS3.out.on HB4.out).on (ball _ _))
  have HQ := hid (show 0 < L.length → ∀ b o, q = some ⟨b, o, none⟩ → b < w4.heap.size from fun h0 b o e => by
    obtain ⟨b', o', e', hc, _⟩ := HS3.out 0 h0
    rw [e'] at e
    simp at e
    rw [← e.1]
    exact Nat.lt_of_lt_of_le (cell_lt hc) HB4.out.size)
  have HWA := hid (show w.heap.size < w4.heap.size from Nat.lt_of_lt_of_le (row_lt HI3.out) HB4.out.size)
  have PK := hid (show VaR w x k q L w4.heap.size (w4.heap.size + 1) 0 (.slice none 0 0) (w4.alloc (.cells (bareI k).v 29)) from ⟨HI5.out, heap_alloc_new _ _, HS5.out, by simpa [uv] using World.ownsRow_nil _ _ 24 1, HBW5.out, by simp, by simp⟩)
  clear HI3 HBW3 HS3 HB4 HI5 HBW5 HS5 BA
  refine hid ?_
  unfold Inp.v iV
  go_wp2
  unfold Inp.v iV at PK
  obtain ⟨W5, hW5⟩ : ∃ y, w4.alloc (.cells #[.int .i64 (bareI k).ki, .int .i64 (bareI k).co, .int .u64 (bareI k).id, .int .u64 (bareI k).tg, .int .u32 (bareI k).me, .int .i64 (bareI k).si, .int .i64 (bareI k).ty, .int .i64 (bareI k).pr, .int .u64 (bareI k).qt, .int .u64 (bareI k).pe, .int .i64 (bareI k).en] 29) = y := ⟨_, rfl⟩
  obtain ⟨A, hA⟩ : ∃ y, w4.heap.size = y := ⟨_, rfl⟩
  rw [hW5, hA] at PK
  rw [hA] at HQ HWA
  rw [hW5, hA]
  clear hW5 hA
  go_loopw [7, 8] (fun v iv wr => ∃ j : Nat, j ≤ L.length ∧ iv = .int .i64 j ∧ VaR w x k q L A (A + 1) j v wr) (fun _ iv _ => L.length - (RowKit.intOf iv).toNat)
  case atStart => exact ⟨0, Nat.zero_le _, rfl, PK.out⟩
  case round =>
    obtain ⟨j, hj, rfl, hpk⟩ := hrel
    have PJ := hid hpk
    clear hpk PK
    by_cases hjl : j < L.length
    · have hjl' : (j : Int) < (L.length : Int) := by omega
      have hj0 : (0 : Int) ≤ (j : Int) := by omega
      obtain ⟨qb, qo, rfl, f0, _, _, _⟩ := PJ.out.s j hjl
      have HAG := hid (agn_step x k L j hjl)
      have HTK := hid (List.take_succ_eq_append_getElem hjl)
      have HT := hid (HIT.out L[j] (List.getElem_mem hjl))
      have HGF := hid (show good x L[j] = false → L.all (good x) = false from fun h => by
        rw [List.all_eq_false]
        exact ⟨L[j], List.getElem_mem hjl, by simp [h]⟩)
      obtain ⟨t, ht⟩ : ∃ t, L[j] = t := ⟨_, rfl⟩
      rw [ht] at f0 HAG HT HTK HGF
      have VL := hid (fun w => VA.out t HT.out w)
      obtain ⟨c0, c1, c2, c3, c4, c5, c6, c7, c8, c9, c10⟩ := cells_I PJ.out.i
      unfold Inp.v iV at VL
      have WI := hid (fun w => with_any (agn x k (L.take j)) t (x.f t) HT.out w)
      unfold Inp.v iV at WI
      cases hok : x.okV t with
      | false =>
        rw [hok] at VL
        go_wp2
        go_region_with (first | (go_at_call 64; refine (VL.out wr.drew).mono ?_; rintro e w1 ⟨rfl, hb⟩; have HB1 := hid hb; clear hb))
        all_goals
          have P1 := hid (PJ.out.drew.below (w' := w1) HB1.out)
          obtain ⟨_, _, he1, g0, g1, _, _⟩ := P1.out.s j hjl
          obtain ⟨rfl, rfl⟩ := addr_inj he1
          rw [ht] at g0 g1
          clear HB1 he1 c0 c1 c2 c3 c4 c5 c6 c7 c8 c9 c10 f0

          go_wp2
          go_ret2
          exact HP.out _ _ ⟨P1.out.bel, Or.inl ⟨bad_of (HGF.out (by simp [good, hok])), rfl⟩⟩

      | true =>
        rw [hok] at VL
        by_cases hm0 : 0 < most t
        · by_cases hle : x.f t ≤ most t
          · have hgd : good x t = true := by simp [good, hok, hle]
            go_wp2
            go_region_with (first | (go_at_call 64; refine (VL.out wr.drew).mono ?_; rintro e w1 ⟨rfl, hb⟩; have HB1 := hid hb; clear hb))
            all_goals
              have P1 := hid (PJ.out.drew.below (w' := w1) HB1.out)
              obtain ⟨_, _, he1, g0, g1, _, _⟩ := P1.out.s j hjl
              obtain ⟨rfl, rfl⟩ := addr_inj he1
              rw [ht] at g0 g1
              clear HB1 he1 c0 c1 c2 c3 c4 c5 c6 c7 c8 c9 c10 f0

              obtain ⟨d0, d1, d2, d3, d4, d5, d6, d7, d8, d9, d10⟩ := cells_I P1.out.a
              go_wp2
              go_region_with (first | (go_at_call 21; refine (WI.out w1.drew).mono ?_; rintro e w2 ⟨rfl, hb⟩; have HR2 := hid (show w2.heap[A]? = some (.cells (agn x k (L.take j)).v 29 (0, 0)) from row_on (w := w1.drew) P1.out.a hb); obtain ⟨e0, e1, e2, e3, e4, e5, e6, e7, e8, e9, e10⟩ := cells_I HR2.out; obtain ⟨z0, z1, z2, z3, z4, z5, z6, z7, z8, z9, z10⟩ := frz_I HR2.out; have HB2 := hid hb; clear hb))
              all_goals
                obtain ⟨W3, hW3, hST⟩ := st11 w2 A _ ((agn x k (L.take j)).set t (x.f t)) HR2.out
                rw [← HAG.out] at hST
                have HST := hid hST
                have HO3 := hid ((P1.out.drew.below HB2.out).o.kept hST.grown (Or.inr (fun e => by have := (P1.out.o.lt A e).1; omega)))
                have hB3 : A + 1 ≤ W3.heap.size := by have h1 := (P1.out.drew.below HB2.out).bs; have h2 := hST.siz; omega
                clear hST z0 z1 z2 z3 z4 z5 z6 z7 z8 z9 z10 e0 e1 e2 e3 e4 e5 e6 e7 e8 e9 e10 d0 d1 d2 d3 d4 d5 d6 d7 d8 d9 d10 HR2
                rw [hW3]
                clear hW3
                go_wp2_with (first | (at_builtin; refine own_app W3 (by rfl) (.tmp 62) (.tmp 64) (by rfl) (A + 1) _ _ j (by rfl) HO3.out (x.f t) (by rfl) (by omega) hB3 ?_; intro v4 w5 ho5 hg5; have HO5 := hid ho5; have HG5 := hid hg5; clear ho5 hg5; refine Hid.out ?_))
                have PN := hid (show VaR w x k (some ⟨qb, qo, none⟩) L A (A + 1) (j + 1) v4 w5 from P1.out.drew.next HB2.out HST.out HG5.out (by rw [HTK.out]; simpa [List.map_append] using HO5.out) HWA.out (HQ.out (by omega) _ _ rfl) (by rw [HTK.out, List.all_append, P1.out.g]; simp [hgd]))
                clear HO5 HG5 HST HO3 P1 HB2
                refine hid ?_
                go_wp2
                go_roundw
                case rel => exact ⟨j + 1, by omega, by go_num, PN.out⟩
                case measure => simp [RowKit.intOf]; omega

          · have hlt : most t < x.f t := by omega
            go_wp2
            go_region_with (first | (go_at_call 64; refine (VL.out wr.drew).mono ?_; rintro e w1 ⟨rfl, hb⟩; have HB1 := hid hb; clear hb))
            all_goals
              have P1 := hid (PJ.out.drew.below (w' := w1) HB1.out)
              obtain ⟨_, _, he1, g0, g1, _, _⟩ := P1.out.s j hjl
              obtain ⟨rfl, rfl⟩ := addr_inj he1
              rw [ht] at g0 g1
              clear HB1 he1 c0 c1 c2 c3 c4 c5 c6 c7 c8 c9 c10 f0

              go_wp2
              go_ret2
              exact HP.out _ _ ⟨P1.out.bel, Or.inl ⟨bad_of (HGF.out (by simp only [good, hok, Bool.true_and, Bool.or_eq_false_iff, decide_eq_false_iff_not]; omega)), rfl⟩⟩

        · have hgd : good x t = true := by simp only [good, hok, Bool.true_and, Bool.or_eq_true, decide_eq_true_eq]; exact Or.inl (by have := HMN.out t; omega)
          go_wp2
          go_region_with (first | (go_at_call 64; refine (VL.out wr.drew).mono ?_; rintro e w1 ⟨rfl, hb⟩; have HB1 := hid hb; clear hb))
          all_goals
            have P1 := hid (PJ.out.drew.below (w' := w1) HB1.out)
            obtain ⟨_, _, he1, g0, g1, _, _⟩ := P1.out.s j hjl
            obtain ⟨rfl, rfl⟩ := addr_inj he1
            rw [ht] at g0 g1
            clear HB1 he1 c0 c1 c2 c3 c4 c5 c6 c7 c8 c9 c10 f0

            obtain ⟨d0, d1, d2, d3, d4, d5, d6, d7, d8, d9, d10⟩ := cells_I P1.out.a
            go_wp2
            go_region_with (first | (go_at_call 21; refine (WI.out w1.drew).mono ?_; rintro e w2 ⟨rfl, hb⟩; have HR2 := hid (show w2.heap[A]? = some (.cells (agn x k (L.take j)).v 29 (0, 0)) from row_on (w := w1.drew) P1.out.a hb); obtain ⟨e0, e1, e2, e3, e4, e5, e6, e7, e8, e9, e10⟩ := cells_I HR2.out; obtain ⟨z0, z1, z2, z3, z4, z5, z6, z7, z8, z9, z10⟩ := frz_I HR2.out; have HB2 := hid hb; clear hb))
            all_goals
              obtain ⟨W3, hW3, hST⟩ := st11 w2 A _ ((agn x k (L.take j)).set t (x.f t)) HR2.out
              rw [← HAG.out] at hST
              have HST := hid hST
              have HO3 := hid ((P1.out.drew.below HB2.out).o.kept hST.grown (Or.inr (fun e => by have := (P1.out.o.lt A e).1; omega)))
              have hB3 : A + 1 ≤ W3.heap.size := by have h1 := (P1.out.drew.below HB2.out).bs; have h2 := hST.siz; omega
              clear hST z0 z1 z2 z3 z4 z5 z6 z7 z8 z9 z10 e0 e1 e2 e3 e4 e5 e6 e7 e8 e9 e10 d0 d1 d2 d3 d4 d5 d6 d7 d8 d9 d10 HR2
              rw [hW3]
              clear hW3
              go_wp2_with (first | (at_builtin; refine own_app W3 (by rfl) (.tmp 62) (.tmp 64) (by rfl) (A + 1) _ _ j (by rfl) HO3.out (x.f t) (by rfl) (by omega) hB3 ?_; intro v4 w5 ho5 hg5; have HO5 := hid ho5; have HG5 := hid hg5; clear ho5 hg5; refine Hid.out ?_))
              have PN := hid (show VaR w x k (some ⟨qb, qo, none⟩) L A (A + 1) (j + 1) v4 w5 from P1.out.drew.next HB2.out HST.out HG5.out (by rw [HTK.out]; simpa [List.map_append] using HO5.out) HWA.out (HQ.out (by omega) _ _ rfl) (by rw [HTK.out, List.all_append, P1.out.g]; simp [hgd]))
              clear HO5 HG5 HST HO3 P1 HB2
              refine hid ?_
              go_wp2
              go_roundw
              case rel => exact ⟨j + 1, by omega, by go_num, PN.out⟩
              case measure => simp [RowKit.intOf]; omega

    · have hje : j = L.length := by omega
      subst hje
      have hp := PJ.out
      obtain ⟨ha, hg, ho⟩ := And.intro hp.a (And.intro hp.g hp.o)
      rw [List.take_length (l := L)] at ha hg ho
      have HG := hid hg
      have HO := hid ho
      have HBE := hid hp.bel
      obtain ⟨c0, c1, c2, c3, c4, c5, c6, c7, c8, c9, c10⟩ := cells_I hp.i
      obtain ⟨d0, d1, d2, d3, d4, d5, d6, d7, d8, d9, d10⟩ := cells_I ha
      clear hp hg ho ha PJ
      by_cases hto : (agn x k L).v = x.v
      · have q := eqI_yes (agn x k L).ki (agn x k L).co (agn x k L).id (agn x k L).tg (agn x k L).me (agn x k L).si (agn x k L).ty (agn x k L).pr (agn x k L).qt (agn x k L).pe (agn x k L).en x.ki x.co x.id x.tg x.me x.si x.ty x.pr x.qt x.pe x.en hto
        unfold iV at q
        have HTO := hid hto
        clear hto
        go_wp2
        go_ret2
        obtain ⟨p, cp, hv, hsu⟩ := own_su HO.out
        refine HP.out _ _ ⟨HBE.out, Or.inr ⟨⟨HG.out, HTO.out⟩, p, cp, ?_, hsu⟩⟩
        simp [hv]
      · have q := eqI_no (agn x k L).ki (agn x k L).co (agn x k L).id (agn x k L).tg (agn x k L).me (agn x k L).si (agn x k L).ty (agn x k L).pr (agn x k L).qt (agn x k L).pe (agn x k L).en x.ki x.co x.id x.tg x.me x.si x.ty x.pr x.qt x.pe x.en hto
        unfold iV at q
        have HTO := hid hto
        clear hto
        go_wp2
        go_ret2
        exact HP.out _ _ ⟨HBE.out, Or.inl ⟨fun h => HTO.out h.2, rfl⟩⟩
end Go.Proofs.YtjgjoohdocjpkaaGreatDoor.Msg
namespace Go.Proofs.YtjgjoohdocjpkaaGreatDoor.Msg
open Go.RowKit Go.Maps Go.Deep Go.Lib
set_option linter.unusedVariables false
set_option linter.unusedSimpArgs false
set_option maxRecDepth 100000
structure Inp.Rg (x : Inp) : Prop where
  si : -9223372036854775808 ≤ x.si ∧ x.si < 9223372036854775808
  ty : -9223372036854775808 ≤ x.ty ∧ x.ty < 9223372036854775808
  pr : -9223372036854775808 ≤ x.pr ∧ x.pr < 9223372036854775808
  en : -9223372036854775808 ≤ x.en ∧ x.en < 9223372036854775808
theorem good_eq (x : Inp) (hx : x.Ok) (hr : x.Rg) (t : Int) (ht : InTag t) : good x t = decide (x.f t ≤ bnd t) := by
  obtain ⟨⟨a1, a2⟩, ⟨b1, b2⟩, ⟨c1, c2⟩, ⟨d1, d2⟩, ⟨e1, e2⟩⟩ := hx
  obtain ⟨⟨s1, s2⟩, ⟨t1, t2⟩, ⟨p1, p2⟩, ⟨n1, n2⟩⟩ := hr
  rcases ht with rfl | rfl | rfl | rfl | rfl | rfl | rfl | rfl | rfl
  all_goals simp [good, Inp.okV, most, bnd, Inp.f, inF, upd, u64]
  all_goals omega
theorem all_eq (x : Inp) (hx : x.Ok) (hr : x.Rg) (k : Int) (h1 : 1 ≤ k) (h4 : k ≤ 4) : (tagsL k).all (good x) = inB (tagsL k) x.f := by
  unfold inB
  have h : ∀ t ∈ tagsL k, good x t = decide (x.f t ≤ bnd t) := fun t ht => good_eq x hx hr t (in_tag h1 h4 ht)
  generalize tagsL k = L at h
  induction L with
  | nil => rfl
  | cons a L ih =>
    rw [List.all_cons, List.all_cons, h a (by simp), ih (fun t ht => h t (by simp [ht]))]
theorem vl_iff (y x : Inp) : y.v = x.v ↔ y.l = x.l := by
  unfold Inp.v iV Inp.l
  simp
theorem agn_l (x : Inp) (k : Int) (h1 : 1 ≤ k) (h4 : k ≤ 4) : (agn x k (tagsL k)).l = iL k (only (tagsL k) x.f) := by
  obtain rfl | rfl | rfl | rfl : k = 1 ∨ k = 2 ∨ k = 3 ∨ k = 4 := by omega
  all_goals simp [agn, tagsL, bareI, Inp.set, iL, only, Inp.l]
  all_goals simp [u32, s64, wrap64]
theorem told_iff (x : Inp) (hx : x.Ok) (hr : x.Rg) (h1 : 1 ≤ x.k) (h4 : x.k ≤ 4) : ((tagsL x.k).all (good x) = true ∧ (agn x x.k (tagsL x.k)).v = x.v) ↔ x.told = true := by
  rw [all_eq x hx hr x.k h1 h4, vl_iff, agn_l x x.k h1 h4]
  unfold Inp.told Inp.F
  simp
theorem k_range (x : Inp) (h : ¬ x.k = 0) : 1 ≤ x.k ∧ x.k ≤ 4 := by
  rcases k_cases x h with ⟨_, e⟩ | ⟨_, a, b, e⟩ <;> omega
end Go.Proofs.YtjgjoohdocjpkaaGreatDoor.Msg
namespace Go.Proofs.YtjgjoohdocjpkaaGreatDoor.Msg
open Go.RowKit Go.Maps Go.Deep Go.Lib
set_option linter.unusedVariables false
set_option linter.unusedSimpArgs false
set_option maxRecDepth 100000
theorem values_zero (x : Inp) (w : World) (h : x.k = 0) : Calls Tryz.prog 42 #[.agg x.v] w fun e w' => e = .returned (.tuple #[.slice none 0 0, .int .i64 41]) ∧ Below w.heap.size w w' := by
  have NA := hid (fun w => name_any x w)
  rw [h] at NA
  clear h
  unfold Inp.v iV at *
  go_enter Tryz.func42, Tryz.ntmps42
  go_wp2_with (first | (go_at_call 43; refine (NA.out _).mono ?_; rintro e w2 ⟨rfl, hb⟩; have HB2 := hid hb; clear hb; refine Hid.out ?_))
  refine hid ?_
  go_wp2
  go_ret2
  exact ⟨rfl, btr (ball _ _) HB2.out⟩
theorem values_bad (x : Inp) (hx : x.Ok) (hr : x.Rg) (w : World) (h : ¬ x.e = 0) : Calls Tryz.prog 42 #[.agg x.v] w fun e w' => e = .returned (.tuple #[.slice none 0 0, .int .i64 x.e]) ∧ Below w.heap.size w w' := by
  by_cases h0 : x.k = 0
  · have : x.e = 41 := by unfold Inp.e; rw [if_pos h0]
    rw [this]
    exact values_zero x w h0
  · obtain ⟨h1, h4⟩ := k_range x h0
    have ht : x.told = false := by
      cases ht : x.told
      · rfl
      · exfalso; apply h; unfold Inp.e; rw [if_neg h0, ht]; rfl
    have he : x.e = 40 := by unfold Inp.e; rw [if_neg h0, ht]; rfl
    rw [he]
    refine (values_any x hx w h1 h4).mono ?_
    rintro e w' ⟨hb, ⟨_, rfl⟩ | ⟨hy, _⟩⟩
    · exact ⟨rfl, hb⟩
    · rw [told_iff x hx hr h1 h4, ht] at hy; cases hy
theorem values_ok (x : Inp) (hx : x.Ok) (hr : x.Rg) (w : World) (h : x.e = 0) : Calls Tryz.prog 42 #[.agg x.v] w fun e w' => ∃ p cp, e = .returned (.tuple #[.slice p (tagsL x.k).length cp, .int .i64 0]) ∧ Su w' p ((tagsL x.k).map x.f) ∧ Below w.heap.size w w' := by
  obtain ⟨h0, ht⟩ := e_zero x h
  obtain ⟨h1, h4⟩ := k_range x h0
  refine (values_any x hx w h1 h4).mono ?_
  rintro e w' ⟨hb, ⟨hn, _⟩ | ⟨_, p, cp, rfl, hs⟩⟩
  · exact absurd ((told_iff x hx hr h1 h4).2 ht) hn
  · exact ⟨p, cp, rfl, hs, hb⟩
end Go.Proofs.YtjgjoohdocjpkaaGreatDoor.Msg
