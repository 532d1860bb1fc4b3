/-
  sayEvent in one form; PackEvent.
-/
import Derived.Test.YtnhipamajelalaaMvE
namespace Go.Proofs.Ytnhipamajelalaa
open Go.RowKit Go.Maps Go.Deep Go.Lib
set_option linter.unusedVariables false
set_option linter.unusedSimpArgs false

structure Evt where
  sq : Int
  kd : Int
  id : Int
  ot : Int
  tg : Int
  me : Int
  si : Int
  ty : Int
  pr : Int
  qt : Int
  pe : Int
  re : Int
  co : Int
def Evt.v (x : Evt) : Array Value := eV x.sq x.kd x.id x.ot x.tg x.me x.si x.ty x.pr x.qt x.pe x.re x.co
def Evt.l (x : Evt) : List Int := [x.sq, x.kd, x.id, x.ot, x.tg, x.me, x.si, x.ty, x.pr, x.qt, x.pe, x.re, x.co]
structure Evt.Ok (x : Evt) : Prop where
  sq : Wd x.sq
  id : Wd x.id
  ot : Wd x.ot
  tg : Wd x.tg
  me : 0 ≤ x.me ∧ x.me < 4294967296
  qt : Wd x.qt
  pe : Wd x.pe
/-- what it says: the kind of its frame, or 0. -/
def Evt.k (x : Evt) : Int := if 1 ≤ x.kd ∧ x.kd ≤ 5 then 64 + x.kd else 0
def Evt.f (x : Evt) : Int → Int := evF x.sq x.id x.ot x.tg x.me x.si x.ty x.pr x.qt x.pe x.re x.co
def Evt.F (x : Evt) : Int → Int := only (tagsL x.k) x.f
def evL (k : Int) (f : Int → Int) : List Int := [f 34, k - 64, f 11, f 37, f 41, u32 (f 1), s64 (f 54), s64 (f 40), s64 (f 44), f 38, f 210, s64 (f 378), s64 (f 103)]
def Evt.told (x : Evt) : Bool := inB (tagsL x.k) x.f && (evL x.k x.F == x.l)
def Evt.e (x : Evt) : Int := if x.k = 0 then 41 else if x.told then 0 else 40
def Evt.pk (x : Evt) : Int := if x.e = 0 then x.k else 0
def Evt.pw (x : Evt) : List Int := if x.e = 0 then frW x.k x.F (tagsL x.k) else zeros
theorem evL_iff (k : Int) (f : Int → Int) (x : Evt) : evL k f = x.l ↔ evtV k f = x.v := by
  unfold evL evtV Evt.l Evt.v eV
  simp
theorem sayE_none (x : Evt) (w : World) (h : x.k = 0) :
    Calls Try.prog 26 #[.agg x.v] w fun e w' => e = .returned (.tuple #[.agg #[.int .u8 0, .map none], .int .i64 41]) ∧ Below w.heap.size w w' := by
  unfold Evt.k at h
  unfold Evt.v eV
  obtain ⟨sq, kd, id, ot, tg, me, si, ty, pr, qt, pe, re, co⟩ := x
  simp only at h ⊢
  by_cases c1 : 1 ≤ kd
  · by_cases c3 : kd ≤ 5
    · rw [if_pos ⟨c1, c3⟩] at h; omega
    · have c4 : 5 < kd := by omega
      have c2 : ¬ kd < 1 := by omega
      clear h c1 c3
      go_enter Try.func26, Try.ntmps26
      go_wp2
      exact bodyPost_ret (res46 Try.f26 2 3 Try.results26 _ _ (w.heap.size + 1) #[.int .u8 0, .map none] _ (by rfl) (by rfl) (heap2 _ _ _) info46) rfl ⟨rfl, btr (ball _ _) (ball _ _)⟩
  · have c2 : kd < 1 := by omega
    clear h c1
    go_enter Try.func26, Try.ntmps26
    go_wp2
    exact bodyPost_ret (res46 Try.f26 2 3 Try.results26 _ _ (w.heap.size + 1) #[.int .u8 0, .map none] _ (by rfl) (by rfl) (heap2 _ _ _) info46) rfl ⟨rfl, btr (ball _ _) (ball _ _)⟩
theorem kE_cases (x : Evt) (h : ¬ x.k = 0) : 1 ≤ x.kd ∧ x.kd ≤ 5 ∧ x.k = 64 + x.kd := by
  unfold Evt.k at h ⊢
  by_cases h1 : 1 ≤ x.kd ∧ x.kd ≤ 5
  · exact ⟨h1.1, h1.2, by rw [if_pos h1]⟩
  · rw [if_neg h1] at h; exact absurd rfl h
theorem sayE_bad (x : Evt) (hx : x.Ok) (w : World) (h : ¬ x.e = 0) :
    Calls Try.prog 26 #[.agg x.v] w fun e w' => e = .returned (.tuple #[.agg #[.int .u8 0, .map none], .int .i64 x.e]) ∧ Below w.heap.size w w' := by
  by_cases h0 : x.k = 0
  · have : x.e = 41 := by unfold Evt.e; rw [if_pos h0]
    rw [this]
    exact sayE_none x w h0
  · have ht : x.told = false := by
      cases ht : x.told
      · rfl
      · exfalso; apply h; unfold Evt.e; rw [if_neg h0, ht]; rfl
    have he : x.e = 40 := by unfold Evt.e; rw [if_neg h0, ht]; rfl
    rw [he]
    clear h he
    have hio := (evL_iff x.k x.F x)
    unfold Evt.told at ht
    have hkk := kE_cases x h0
    unfold Evt.F Evt.f at *
    obtain ⟨sq, kd, id, ot, tg, me, si, ty, pr, qt, pe, re, co⟩ := x
    unfold Evt.v Evt.l at *
    simp only at *
    obtain ⟨q1, q2, q3, q4, q5, q6, q7⟩ := hx
    obtain ⟨c1, c5, hk⟩ := hkk
    cases hin : inB (tagsL (Evt.k ⟨sq, kd, id, ot, tg, me, si, ty, pr, qt, pe, re, co⟩)) (evF sq id ot tg me si ty pr qt pe re co) with
    | false =>
      rw [hk] at hin
      exact sayE_out sq kd id ot tg me si ty pr qt pe re co w c1 c5 q1 q2 q3 q4 q5 q6 q7 hin
    | true =>
      rw [hin] at ht
      simp only [Bool.true_and] at ht
      have hne : ¬ _ := fun e => by rw [hio.2 e] at ht; simp at ht
      rw [hk] at hin hne
      exact sayE_no sq kd id ot tg me si ty pr qt pe re co w c1 c5 q1 q2 q3 q4 q5 q6 q7 hin hne
theorem eE_zero (x : Evt) (h : x.e = 0) : ¬ x.k = 0 ∧ x.told = true := by
  unfold Evt.e at h
  by_cases h0 : x.k = 0
  · rw [if_pos h0] at h; omega
  · rw [if_neg h0] at h
    refine ⟨h0, ?_⟩
    cases ht : x.told
    · rw [ht] at h; simp at h
    · rfl
theorem sayE_ok (x : Evt) (hx : x.Ok) (w : World) (h : x.e = 0) :
    Calls Try.prog 26 #[.agg x.v] w fun e w' => ∃ b n, e = .returned (.tuple #[.agg #[.int .u8 x.k, .map (some b)], .int .i64 0]) ∧ Fm w' b n x.F ∧ Below w.heap.size w w' := by
  obtain ⟨h0, ht⟩ := eE_zero x h
  have hio := (evL_iff x.k x.F x)
  unfold Evt.told at ht
  simp only [Bool.and_eq_true, beq_iff_eq] at ht
  obtain ⟨hin, hil⟩ := ht
  have heq := hio.1 hil
  have hkk := kE_cases x h0
  unfold Evt.F Evt.f at *
  obtain ⟨sq, kd, id, ot, tg, me, si, ty, pr, qt, pe, re, co⟩ := x
  unfold Evt.v at *
  simp only at *
  obtain ⟨q1, q2, q3, q4, q5, q6, q7⟩ := hx
  obtain ⟨c1, c5, hk⟩ := hkk
  rw [hk] at hin heq ⊢
  exact sayE_yes sq kd id ot tg me si ty pr qt pe re co w c1 c5 q1 q2 q3 q4 q5 q6 q7 hin heq
set_option maxHeartbeats 2000000 in
set_option maxRecDepth 100000 in
theorem packE_any (x : Evt) (hx : x.Ok) (w : World) :
    Calls Try.prog 10 #[.agg x.v] w fun e w' => e = .returned (.tuple #[.agg (frV x.pk x.pw), .int .i64 x.e]) ∧ Below w.heap.size w w' := by
  by_cases h : x.e = 0
  · have SA := hid (fun w => sayE_ok x hx w h)
    have FR := hid (fun b n w => frame_any x.k b n x.F w)
    have ek : x.pk = x.k := by unfold Evt.pk; rw [if_pos h]
    have ew : x.pw = frW x.k x.F (tagsL x.k) := by unfold Evt.pw; rw [if_pos h]
    rw [ek, ew, h]
    have HFI := hid (info_fr x.k (frW x.k x.F (tagsL x.k)) (frW_len x.k x.F (tagsL x.k)))
    have HON := hid (one_fr x.k (frW x.k x.F (tagsL x.k)))
    have HSZ := hid (size_fr x.k (frW x.k x.F (tagsL x.k)) (frW_len x.k x.F (tagsL x.k)))
    obtain ⟨FV, hFV⟩ : ∃ y, frV x.k (frW x.k x.F (tagsL x.k)) = y := ⟨_, rfl⟩
    rw [hFV] at FR HFI HON HSZ
    rw [hFV]
    clear h ek ew hx hFV
    obtain ⟨k, hk⟩ : ∃ k, x.k = k := ⟨_, rfl⟩
    rw [hk] at SA FR
    clear hk
    unfold Evt.v eV at *
    go_enter Try.func10, Try.ntmps10
    go_wp2_with (first | (go_at_call 26; refine (SA.out _).mono ?_; rintro e w2 ⟨b, n, rfl, hF, hb⟩; have HF := hid hF; have HB := hid hb; clear hF hb; refine Hid.out ?_))
    have HF2 := hid (HF.out.alloc (.cells #[.int .u8 k, .map (some b)] 46))
    have HZ := hid (show (w2.alloc (.cells #[.int .u8 k, .map (some b)] 46)).heap[w.heap.size + 1]? = some (.cells z30 30 (0, 0)) from row_on (row_on (heap2 w _ _) HB.out) (ball _ _))
    have HB2 := hid (show Below w.heap.size w (w2.alloc (.cells #[.int .u8 k, .map (some b)] 46)) from btr (btr (btr (ball _ _) (ball _ _)) HB.out) (ball _ _))
    clear HF HB SA
    refine hid ?_
    go_wp2_with (first | (go_at_call 15; refine (FR.out _ _ _ HF2.out).mono ?_; rintro e w3 ⟨rfl, hb⟩; have HB3 := hid hb; clear hb; refine Hid.out ?_))
    have HZ3 := hid (row_on HZ.out HB3.out)
    have HB4 := hid (btr HB2.out HB3.out)
    clear HF2 HZ HB2 HB3 FR
    refine hid ?_
    go_wp2_with (first | (refine wpList_st (by rfl) 30 (.tmp 2) (.tmp 16) (by rfl) (w.heap.size + 1) FV (by rfl) (by rfl) 30 z30 HZ3.out HFI.out HSZ.out HON.out ?_; intro w5 hst; have HS5 := hid hst; clear hst; refine Hid.out ?_))
    refine hid ?_
    go_wp2
    exact bodyPost_ret (res30 Try.f10 2 3 Try.results10 _ _ (w.heap.size + 1) FV _ (by rfl) (by rfl) HS5.out.row HFI.out) rfl ⟨rfl, HS5.out.bel _ _ HB4.out (by omega)⟩
  · have SA := hid (fun w => sayE_bad x hx w h)
    have ek : x.pk = 0 := by unfold Evt.pk; rw [if_neg h]
    have ew : x.pw = zeros := by unfold Evt.pw; rw [if_neg h]
    rw [ek, ew, frV_zero]
    obtain ⟨E, hE⟩ : ∃ E, x.e = E := ⟨_, rfl⟩
    rw [hE] at SA h ⊢
    have hne : (E != 0) = true := by simpa using h
    clear h ek ew hx hE
    unfold Evt.v eV at *
    go_enter Try.func10, Try.ntmps10
    go_wp2_with (first | (go_at_call 26; refine (SA.out _).mono ?_; rintro e w2 ⟨rfl, hb⟩; have HB := hid hb; clear hb; refine Hid.out ?_))
    have HZ := hid (show (w2.alloc (.cells #[.int .u8 0, .map none] 46)).heap[w.heap.size + 1]? = some (.cells z30 30 (0, 0)) from row_on (row_on (heap2 w _ _) HB.out) (ball _ _))
    have HB2 := hid (show Below w.heap.size w (w2.alloc (.cells #[.int .u8 0, .map none] 46)) from btr (btr (btr (ball _ _) (ball _ _)) HB.out) (ball _ _))
    clear HB SA
    refine hid ?_
    go_wp2_with (first | (refine wpList_st (by rfl) 30 (.tmp 2) (.tmp 13) (by rfl) (w.heap.size + 1) z30 (by rfl) (by rfl) 30 z30 HZ.out info30 rfl (by simp [z30, Value.oneCell']) ?_; intro w5 hst; have HS5 := hid hst; clear hst; refine Hid.out ?_))
    refine hid ?_
    go_wp2
    exact bodyPost_ret (res30 Try.f10 2 3 Try.results10 _ _ (w.heap.size + 1) z30 _ (by rfl) (by rfl) HS5.out.row info30) rfl ⟨rfl, HS5.out.bel _ _ HB2.out (by omega)⟩
end Go.Proofs.Ytnhipamajelalaa
