/-
  sayInput in one form; Pack.
-/
import Derived.Test.YtnhipamajelalaaMgE
namespace Go.Proofs.Ytnhipamajelalaa
open Go.RowKit Go.Maps Go.Deep Go.Lib
set_option linter.unusedVariables false
set_option linter.unusedSimpArgs false

structure Inp where
  ki : Int
  co : Int
  id : Int
  tg : Int
  me : Int
  si : Int
  ty : Int
  pr : Int
  qt : Int
  pe : Int
  en : Int
def Inp.v (x : Inp) : Array Value := iV x.ki x.co x.id x.tg x.me x.si x.ty x.pr x.qt x.pe x.en
def Inp.l (x : Inp) : List Int := [x.ki, x.co, x.id, x.tg, x.me, x.si, x.ty, x.pr, x.qt, x.pe, x.en]
structure Inp.Ok (x : Inp) : Prop where
  id : Wd x.id
  tg : Wd x.tg
  me : 0 ≤ x.me ∧ x.me < 4294967296
  qt : Wd x.qt
  pe : Wd x.pe
/-- what it says: the kind of its frame, or 0. -/
def Inp.k (x : Inp) : Int := if x.ki = 2 then 4 else if x.ki = 1 ∧ 1 ≤ x.co ∧ x.co ≤ 3 then x.co else 0
def Inp.f (x : Inp) : Int → Int := inF x.id x.tg x.me x.si x.ty x.pr x.qt x.pe x.en
def Inp.F (x : Inp) : Int → Int := only (tagsL x.k) x.f
def iL (k : Int) (f : Int → Int) : List Int :=
  if k = 4 then [2, 0, 0, 0, 0, 0, 0, 0, 0, 0, s64 (f 9001)] else [1, k, f 11, f 41, u32 (f 1), s64 (f 54), s64 (f 40), s64 (f 44), f 38, f 210, 0]
def Inp.told (x : Inp) : Bool := inB (tagsL x.k) x.f && (iL x.k x.F == x.l)
def Inp.e (x : Inp) : Int := if x.k = 0 then 41 else if x.told then 0 else 40
def Inp.pk (x : Inp) : Int := if x.e = 0 then x.k else 0
def Inp.pw (x : Inp) : List Int := if x.e = 0 then frW x.k x.F (tagsL x.k) else zeros
theorem iL_iff (k : Int) (f : Int → Int) (x : Inp) : iL k f = x.l ↔ inpV k f = x.v := by
  unfold iL inpV Inp.l Inp.v iV
  split <;> simp
theorem say_none (x : Inp) (w : World) (h : x.k = 0) :
    Calls Try.prog 14 #[.agg x.v] w fun e w' => e = .returned (.tuple #[.agg #[.int .u8 0, .map none], .int .i64 41]) ∧ Below w.heap.size w w' := by
  unfold Inp.k at h
  unfold Inp.v iV
  obtain ⟨ki, co, id, tg, me, si, ty, pr, qt, pe, en⟩ := x
  simp only at h ⊢
  by_cases h2 : ki = 2
  · subst h2; simp at h
  · rw [if_neg h2] at h
    by_cases h1 : ki = 1
    · subst h1
      by_cases c1 : 1 ≤ co
      · by_cases c3 : co ≤ 3
        · rw [if_pos ⟨rfl, c1, c3⟩] at h; omega
        · clear h h2
          go_enter Try.func14, Try.ntmps14
          go_wp2
          exact bodyPost_ret (res46 Try.f14 2 3 Try.results14 _ _ (w.heap.size + 1) #[.int .u8 0, .map none] _ (by rfl) (by rfl) (row_on (heap2 _ _ _) (ball _ _)) info46) rfl ⟨rfl, btr (btr (ball _ _) (ball _ _)) (ball _ _)⟩
      · clear h h2
        go_enter Try.func14, Try.ntmps14
        go_wp2
        exact bodyPost_ret (res46 Try.f14 2 3 Try.results14 _ _ (w.heap.size + 1) #[.int .u8 0, .map none] _ (by rfl) (by rfl) (row_on (heap2 _ _ _) (ball _ _)) info46) rfl ⟨rfl, btr (btr (ball _ _) (ball _ _)) (ball _ _)⟩
    · clear h
      go_enter Try.func14, Try.ntmps14
      go_wp2
      exact bodyPost_ret (res46 Try.f14 2 3 Try.results14 _ _ (w.heap.size + 1) #[.int .u8 0, .map none] _ (by rfl) (by rfl) (row_on (heap2 _ _ _) (ball _ _)) info46) rfl ⟨rfl, btr (btr (ball _ _) (ball _ _)) (ball _ _)⟩
theorem k_cases (x : Inp) (h : ¬ x.k = 0) : (x.ki = 2 ∧ x.k = 4) ∨ (x.ki = 1 ∧ 1 ≤ x.co ∧ x.co ≤ 3 ∧ x.k = x.co) := by
  unfold Inp.k at h ⊢
  by_cases h2 : x.ki = 2
  · exact Or.inl ⟨h2, by rw [if_pos h2]⟩
  · rw [if_neg h2] at h ⊢
    by_cases h1 : x.ki = 1 ∧ 1 ≤ x.co ∧ x.co ≤ 3
    · exact Or.inr ⟨h1.1, h1.2.1, h1.2.2, by rw [if_pos h1]⟩
    · rw [if_neg h1] at h; exact absurd rfl h
theorem say_bad (x : Inp) (hx : x.Ok) (w : World) (h : ¬ x.e = 0) :
    Calls Try.prog 14 #[.agg x.v] w fun e w' => e = .returned (.tuple #[.agg #[.int .u8 0, .map none], .int .i64 x.e]) ∧ Below w.heap.size w w' := by
  by_cases h0 : x.k = 0
  · have : x.e = 41 := by unfold Inp.e; rw [if_pos h0]
    rw [this]
    exact say_none x w h0
  · have ht : x.told = false := by
      cases ht : x.told
      · rfl
      · exfalso; apply h; unfold Inp.e; rw [if_neg h0, ht]; rfl
    have he : x.e = 40 := by unfold Inp.e; rw [if_neg h0, ht]; rfl
    rw [he]
    clear h he
    have hio := (iL_iff x.k x.F x)
    unfold Inp.told at ht
    have hkk := k_cases x h0
    unfold Inp.F Inp.f at *
    obtain ⟨ki, co, id, tg, me, si, ty, pr, qt, pe, en⟩ := x
    unfold Inp.v Inp.l at *
    simp only at *
    obtain ⟨q1, q2, q3, q4, q5⟩ := hx
    cases hin : inB (tagsL (Inp.k ⟨ki, co, id, tg, me, si, ty, pr, qt, pe, en⟩)) (inF id tg me si ty pr qt pe en) with
    | false =>
      rcases hkk with ⟨rfl, hk⟩ | ⟨rfl, c1, c3, hk⟩
      · rw [hk] at hin
        exact say_eng_out co id tg me si ty pr qt pe en w q1 q2 q3 q4 q5 hin
      · rw [hk] at hin
        exact say_cmd_out co id tg me si ty pr qt pe en w c1 c3 q1 q2 q3 q4 q5 hin
    | true =>
      rw [hin] at ht
      simp only [Bool.true_and] at ht
      have hne : ¬ _ := fun e => by rw [hio.2 e] at ht; simp at ht
      rcases hkk with ⟨rfl, hk⟩ | ⟨rfl, c1, c3, hk⟩
      · rw [hk] at hin hne
        exact say_eng_no co id tg me si ty pr qt pe en w q1 q2 q3 q4 q5 hin hne
      · rw [hk] at hin hne
        exact say_cmd_no co id tg me si ty pr qt pe en w c1 c3 q1 q2 q3 q4 q5 hin hne
theorem e_zero (x : Inp) (h : x.e = 0) : ¬ x.k = 0 ∧ x.told = true := by
  unfold Inp.e at h
  by_cases h0 : x.k = 0
  · rw [if_pos h0] at h; omega
  · rw [if_neg h0] at h
    refine ⟨h0, ?_⟩
    cases ht : x.told
    · rw [ht] at h; simp at h
    · rfl
theorem say_ok (x : Inp) (hx : x.Ok) (w : World) (h : x.e = 0) :
    Calls Try.prog 14 #[.agg x.v] w fun e w' => ∃ b n, e = .returned (.tuple #[.agg #[.int .u8 x.k, .map (some b)], .int .i64 0]) ∧ Fm w' b n x.F ∧ Below w.heap.size w w' := by
  obtain ⟨h0, ht⟩ := e_zero x h
  have hio := (iL_iff x.k x.F x)
  unfold Inp.told at ht
  simp only [Bool.and_eq_true, beq_iff_eq] at ht
  obtain ⟨hin, hil⟩ := ht
  have heq := hio.1 hil
  have hkk := k_cases x h0
  unfold Inp.F Inp.f at *
  obtain ⟨ki, co, id, tg, me, si, ty, pr, qt, pe, en⟩ := x
  unfold Inp.v at *
  simp only at *
  obtain ⟨q1, q2, q3, q4, q5⟩ := hx
  rcases hkk with ⟨rfl, hk⟩ | ⟨rfl, c1, c3, hk⟩
  · rw [hk] at hin heq ⊢
    exact say_eng_yes co id tg me si ty pr qt pe en w q1 q2 q3 q4 q5 hin heq
  · rw [hk] at hin heq ⊢
    exact say_cmd_yes co id tg me si ty pr qt pe en w c1 c3 q1 q2 q3 q4 q5 hin heq
theorem res30 (fn : Func) (p u : Tmp) (h : fn.results = #[.cell p 30, .tmp u]) (tmps : Array Value) (w : World) (g : Nat) (cs : Array Value) (eu : Value)
    (hp : tmps.getD p undef = .pointer (some ⟨g, 0, none⟩)) (hu : tmps.getD u undef = eu) (hg : w.heap[g]? = some (.cells cs 30 (0, 0))) (hi : (Try.prog.info? 30).map (·.size) = some cs.size) :
    (results fn tmps).run Try.prog w = .ok (.tuple #[.agg cs, eu]) w := by
  have hp' : tmps[p]?.getD undef = .pointer (some ⟨g, 0, none⟩) := by simpa using hp
  have hu' : tmps[u]?.getD undef = eu := by simpa using hu
  simp [results, h, hp', hu', asAddr, run_loadVar_row w g 30 30 cs (0, 0) _ hg Try.underlying30 rfl hi]
theorem frV_zero : frV 0 zeros = z30 := rfl
set_option maxHeartbeats 2000000 in
set_option maxRecDepth 100000 in
theorem pack_any (x : Inp) (hx : x.Ok) (w : World) :
    Calls Try.prog 6 #[.agg x.v] w fun e w' => e = .returned (.tuple #[.agg (frV x.pk x.pw), .int .i64 x.e]) ∧ Below w.heap.size w w' := by
  by_cases h : x.e = 0
  · have SA := hid (fun w => say_ok x hx w h)
    have FR := hid (fun b n w => frame_any x.k b n x.F w)
    have ek : x.pk = x.k := by unfold Inp.pk; rw [if_pos h]
    have ew : x.pw = frW x.k x.F (tagsL x.k) := by unfold Inp.pw; rw [if_pos h]
    rw [ek, ew, h]
    have HFI := hid (info_fr x.k (frW x.k x.F (tagsL x.k)) (frW_len x.k x.F (tagsL x.k)))
    have HON := hid (one_fr x.k (frW x.k x.F (tagsL x.k)))
    have HSZ := hid (size_fr x.k (frW x.k x.F (tagsL x.k)) (frW_len x.k x.F (tagsL x.k)))
    obtain ⟨FV, hFV⟩ : ∃ y, frV x.k (frW x.k x.F (tagsL x.k)) = y := ⟨_, rfl⟩
    rw [hFV] at FR HFI HON HSZ
    rw [hFV]
    clear h ek ew hx hFV
    obtain ⟨k, hk⟩ : ∃ k, x.k = k := ⟨_, rfl⟩
    rw [hk] at SA FR
    clear hk
    unfold Inp.v iV at *
    go_enter Try.func6, Try.ntmps6
    go_wp2_with (first | (go_at_call 14; refine (SA.out _).mono ?_; rintro e w2 ⟨b, n, rfl, hF, hb⟩; have HF := hid hF; have HB := hid hb; clear hF hb; refine Hid.out ?_))
    have HF2 := hid (HF.out.alloc (.cells #[.int .u8 k, .map (some b)] 46))
    have HZ := hid (show (w2.alloc (.cells #[.int .u8 k, .map (some b)] 46)).heap[w.heap.size + 1]? = some (.cells z30 30 (0, 0)) from row_on (row_on (heap2 w _ _) HB.out) (ball _ _))
    have HB2 := hid (show Below w.heap.size w (w2.alloc (.cells #[.int .u8 k, .map (some b)] 46)) from btr (btr (btr (ball _ _) (ball _ _)) HB.out) (ball _ _))
    clear HF HB SA
    refine hid ?_
    go_wp2_with (first | (go_at_call 15; refine (FR.out _ _ _ HF2.out).mono ?_; rintro e w3 ⟨rfl, hb⟩; have HB3 := hid hb; clear hb; refine Hid.out ?_))
    have HZ3 := hid (row_on HZ.out HB3.out)
    have HB4 := hid (btr HB2.out HB3.out)
    clear HF2 HZ HB2 HB3 FR
    refine hid ?_
    go_wp2_with (first | (refine wpList_st (by rfl) 30 (.tmp 2) (.tmp 16) (by rfl) (w.heap.size + 1) FV (by rfl) (by rfl) 30 z30 HZ3.out HFI.out HSZ.out HON.out ?_; intro w5 hst; have HS5 := hid hst; clear hst; refine Hid.out ?_))
    refine hid ?_
    go_wp2
    exact bodyPost_ret (res30 Try.f6 2 3 Try.results6 _ _ (w.heap.size + 1) FV _ (by rfl) (by rfl) HS5.out.row HFI.out) rfl ⟨rfl, HS5.out.bel _ _ HB4.out (by omega)⟩
  · have SA := hid (fun w => say_bad x hx w h)
    have ek : x.pk = 0 := by unfold Inp.pk; rw [if_neg h]
    have ew : x.pw = zeros := by unfold Inp.pw; rw [if_neg h]
    rw [ek, ew, frV_zero]
    obtain ⟨E, hE⟩ : ∃ E, x.e = E := ⟨_, rfl⟩
    rw [hE] at SA h ⊢
    have hne : (E != 0) = true := by simpa using h
    clear h ek ew hx hE
    unfold Inp.v iV at *
    go_enter Try.func6, Try.ntmps6
    go_wp2_with (first | (go_at_call 14; refine (SA.out _).mono ?_; rintro e w2 ⟨rfl, hb⟩; have HB := hid hb; clear hb; refine Hid.out ?_))
    have HZ := hid (show (w2.alloc (.cells #[.int .u8 0, .map none] 46)).heap[w.heap.size + 1]? = some (.cells z30 30 (0, 0)) from row_on (row_on (heap2 w _ _) HB.out) (ball _ _))
    have HB2 := hid (show Below w.heap.size w (w2.alloc (.cells #[.int .u8 0, .map none] 46)) from btr (btr (btr (ball _ _) (ball _ _)) HB.out) (ball _ _))
    clear HB SA
    refine hid ?_
    go_wp2_with (first | (refine wpList_st (by rfl) 30 (.tmp 2) (.tmp 13) (by rfl) (w.heap.size + 1) z30 (by rfl) (by rfl) 30 z30 HZ.out info30 rfl (by simp [z30, Value.oneCell']) ?_; intro w5 hst; have HS5 := hid hst; clear hst; refine Hid.out ?_))
    refine hid ?_
    go_wp2
    exact bodyPost_ret (res30 Try.f6 2 3 Try.results6 _ _ (w.heap.size + 1) z30 _ (by rfl) (by rfl) HS5.out.row info30) rfl ⟨rfl, HS5.out.bel _ _ HB2.out (by omega)⟩
end Go.Proofs.Ytnhipamajelalaa
