/-
  UnpackEvent.
-/
import Derived.Test.YtnhipamajelalaaMgS
import Derived.Test.YtnhipamajelalaaMvK
namespace Go.Proofs.Ytnhipamajelalaa
open Go.RowKit Go.Maps Go.Deep Go.Lib
set_option linter.unusedVariables false
set_option linter.unusedSimpArgs false

def zeroE : Evt := ⟨0, 0, 0, 0, 0, 0, 0, 0, 0, 0, 0, 0, 0⟩
theorem isEvent_any (k : Int) (w : World) : Calls Try.prog 29 #[.int .u8 k] w fun e w' => e = .returned (.bool (decide (65 ≤ k ∧ k ≤ 69))) ∧ w' = w := by
  by_cases h1 : 65 ≤ k
  · by_cases h2 : k ≤ 69
    · go_enter Try.func29, Try.ntmps29
      go_wp2
      go_ret
      exact ⟨by simp [h1, h2], rfl⟩
    · go_enter Try.func29, Try.ntmps29
      go_wp2
      go_ret
      exact ⟨by simp [h1, h2], rfl⟩
  · go_enter Try.func29, Try.ntmps29
    go_wp2
    go_ret
    exact ⟨by simp; omega, rfl⟩
/-- the event that stands in a frame. -/
def rdE (k : Int) (l : List Int) : Evt := agnG (rdG k l) (k - 64) (tagsL k)
theorem rdE_l (k : Int) (l : List Int) (h1 : 65 ≤ k) (h4 : k ≤ 69) : (rdE k l).l = evL k (only (tagsL k) (rdG k l)) := by
  have h := agnG_l (rdG k l) (k - 64) (by omega) (by omega)
  rw [show 64 + (k - 64) = k from by omega] at h
  exact h
theorem evtV_rd (k : Int) (l : List Int) (h1 : 65 ≤ k) (h4 : k ≤ 69) : evtV k (only (tagsL k) (rdG k l)) = (rdE k l).v := (evL_iff k _ (rdE k l)).1 (rdE_l k l h1 h4).symm
theorem setE_ok (x : Evt) (hx : x.Ok) (hr : x.Rg) (t n : Int) (hn : Wd n) : (x.set t n).Ok ∧ (x.set t n).Rg := by
  unfold Evt.set
  by_cases h34 : t = 34
  · rw [if_pos h34]
    exact ⟨⟨by first | exact hn | exact hx.sq, by first | exact hn | exact hx.id, by first | exact hn | exact hx.ot, by first | exact hn | exact hx.tg, by first | exact hx.me | (simp only [u32]; omega), by first | exact hn | exact hx.qt, by first | exact hn | exact hx.pe⟩, ⟨by first | exact s64_rg n | exact hr.si, by first | exact s64_rg n | exact hr.ty, by first | exact s64_rg n | exact hr.pr, by first | exact s64_rg n | exact hr.re, by first | exact s64_rg n | exact hr.co⟩⟩
  rw [if_neg h34]
  by_cases h11 : t = 11
  · rw [if_pos h11]
    exact ⟨⟨by first | exact hn | exact hx.sq, by first | exact hn | exact hx.id, by first | exact hn | exact hx.ot, by first | exact hn | exact hx.tg, by first | exact hx.me | (simp only [u32]; omega), by first | exact hn | exact hx.qt, by first | exact hn | exact hx.pe⟩, ⟨by first | exact s64_rg n | exact hr.si, by first | exact s64_rg n | exact hr.ty, by first | exact s64_rg n | exact hr.pr, by first | exact s64_rg n | exact hr.re, by first | exact s64_rg n | exact hr.co⟩⟩
  rw [if_neg h11]
  by_cases h41 : t = 41
  · rw [if_pos h41]
    exact ⟨⟨by first | exact hn | exact hx.sq, by first | exact hn | exact hx.id, by first | exact hn | exact hx.ot, by first | exact hn | exact hx.tg, by first | exact hx.me | (simp only [u32]; omega), by first | exact hn | exact hx.qt, by first | exact hn | exact hx.pe⟩, ⟨by first | exact s64_rg n | exact hr.si, by first | exact s64_rg n | exact hr.ty, by first | exact s64_rg n | exact hr.pr, by first | exact s64_rg n | exact hr.re, by first | exact s64_rg n | exact hr.co⟩⟩
  rw [if_neg h41]
  by_cases h37 : t = 37
  · rw [if_pos h37]
    exact ⟨⟨by first | exact hn | exact hx.sq, by first | exact hn | exact hx.id, by first | exact hn | exact hx.ot, by first | exact hn | exact hx.tg, by first | exact hx.me | (simp only [u32]; omega), by first | exact hn | exact hx.qt, by first | exact hn | exact hx.pe⟩, ⟨by first | exact s64_rg n | exact hr.si, by first | exact s64_rg n | exact hr.ty, by first | exact s64_rg n | exact hr.pr, by first | exact s64_rg n | exact hr.re, by first | exact s64_rg n | exact hr.co⟩⟩
  rw [if_neg h37]
  by_cases h1 : t = 1
  · rw [if_pos h1]
    exact ⟨⟨by first | exact hn | exact hx.sq, by first | exact hn | exact hx.id, by first | exact hn | exact hx.ot, by first | exact hn | exact hx.tg, by first | exact hx.me | (simp only [u32]; omega), by first | exact hn | exact hx.qt, by first | exact hn | exact hx.pe⟩, ⟨by first | exact s64_rg n | exact hr.si, by first | exact s64_rg n | exact hr.ty, by first | exact s64_rg n | exact hr.pr, by first | exact s64_rg n | exact hr.re, by first | exact s64_rg n | exact hr.co⟩⟩
  rw [if_neg h1]
  by_cases h38 : t = 38
  · rw [if_pos h38]
    exact ⟨⟨by first | exact hn | exact hx.sq, by first | exact hn | exact hx.id, by first | exact hn | exact hx.ot, by first | exact hn | exact hx.tg, by first | exact hx.me | (simp only [u32]; omega), by first | exact hn | exact hx.qt, by first | exact hn | exact hx.pe⟩, ⟨by first | exact s64_rg n | exact hr.si, by first | exact s64_rg n | exact hr.ty, by first | exact s64_rg n | exact hr.pr, by first | exact s64_rg n | exact hr.re, by first | exact s64_rg n | exact hr.co⟩⟩
  rw [if_neg h38]
  by_cases h210 : t = 210
  · rw [if_pos h210]
    exact ⟨⟨by first | exact hn | exact hx.sq, by first | exact hn | exact hx.id, by first | exact hn | exact hx.ot, by first | exact hn | exact hx.tg, by first | exact hx.me | (simp only [u32]; omega), by first | exact hn | exact hx.qt, by first | exact hn | exact hx.pe⟩, ⟨by first | exact s64_rg n | exact hr.si, by first | exact s64_rg n | exact hr.ty, by first | exact s64_rg n | exact hr.pr, by first | exact s64_rg n | exact hr.re, by first | exact s64_rg n | exact hr.co⟩⟩
  rw [if_neg h210]
  by_cases h54 : t = 54
  · rw [if_pos h54]
    exact ⟨⟨by first | exact hn | exact hx.sq, by first | exact hn | exact hx.id, by first | exact hn | exact hx.ot, by first | exact hn | exact hx.tg, by first | exact hx.me | (simp only [u32]; omega), by first | exact hn | exact hx.qt, by first | exact hn | exact hx.pe⟩, ⟨by first | exact s64_rg n | exact hr.si, by first | exact s64_rg n | exact hr.ty, by first | exact s64_rg n | exact hr.pr, by first | exact s64_rg n | exact hr.re, by first | exact s64_rg n | exact hr.co⟩⟩
  rw [if_neg h54]
  by_cases h40 : t = 40
  · rw [if_pos h40]
    exact ⟨⟨by first | exact hn | exact hx.sq, by first | exact hn | exact hx.id, by first | exact hn | exact hx.ot, by first | exact hn | exact hx.tg, by first | exact hx.me | (simp only [u32]; omega), by first | exact hn | exact hx.qt, by first | exact hn | exact hx.pe⟩, ⟨by first | exact s64_rg n | exact hr.si, by first | exact s64_rg n | exact hr.ty, by first | exact s64_rg n | exact hr.pr, by first | exact s64_rg n | exact hr.re, by first | exact s64_rg n | exact hr.co⟩⟩
  rw [if_neg h40]
  by_cases h44 : t = 44
  · rw [if_pos h44]
    exact ⟨⟨by first | exact hn | exact hx.sq, by first | exact hn | exact hx.id, by first | exact hn | exact hx.ot, by first | exact hn | exact hx.tg, by first | exact hx.me | (simp only [u32]; omega), by first | exact hn | exact hx.qt, by first | exact hn | exact hx.pe⟩, ⟨by first | exact s64_rg n | exact hr.si, by first | exact s64_rg n | exact hr.ty, by first | exact s64_rg n | exact hr.pr, by first | exact s64_rg n | exact hr.re, by first | exact s64_rg n | exact hr.co⟩⟩
  rw [if_neg h44]
  by_cases h378 : t = 378
  · rw [if_pos h378]
    exact ⟨⟨by first | exact hn | exact hx.sq, by first | exact hn | exact hx.id, by first | exact hn | exact hx.ot, by first | exact hn | exact hx.tg, by first | exact hx.me | (simp only [u32]; omega), by first | exact hn | exact hx.qt, by first | exact hn | exact hx.pe⟩, ⟨by first | exact s64_rg n | exact hr.si, by first | exact s64_rg n | exact hr.ty, by first | exact s64_rg n | exact hr.pr, by first | exact s64_rg n | exact hr.re, by first | exact s64_rg n | exact hr.co⟩⟩
  rw [if_neg h378]
  by_cases h103 : t = 103
  · rw [if_pos h103]
    exact ⟨⟨by first | exact hn | exact hx.sq, by first | exact hn | exact hx.id, by first | exact hn | exact hx.ot, by first | exact hn | exact hx.tg, by first | exact hx.me | (simp only [u32]; omega), by first | exact hn | exact hx.qt, by first | exact hn | exact hx.pe⟩, ⟨by first | exact s64_rg n | exact hr.si, by first | exact s64_rg n | exact hr.ty, by first | exact s64_rg n | exact hr.pr, by first | exact s64_rg n | exact hr.re, by first | exact s64_rg n | exact hr.co⟩⟩
  rw [if_neg h103]
  exact ⟨hx, hr⟩
theorem agnG_ok (f : Int → Int) (hf : ∀ t, Wd (f t)) (kd : Int) (L : List Int) : (agnG f kd L).Ok ∧ (agnG f kd L).Rg := by
  have hb : (bareE kd).Ok ∧ (bareE kd).Rg := by
    unfold bareE
    exact ⟨⟨by simp [Wd], by simp [Wd], by simp [Wd], by simp [Wd], by simp, by simp [Wd], by simp [Wd]⟩, ⟨by simp, by simp, by simp, by simp, by simp⟩⟩
  unfold agnG
  generalize bareE kd = y at hb
  induction L generalizing y with
  | nil => exact hb
  | cons t L ih => exact ih _ (setE_ok y hb.1 hb.2 t (f t) (hf t))
theorem rdE_ok (k : Int) (l : List Int) : (rdE k l).Ok := (agnG_ok _ (rdG_wd k l) _ _).1
theorem rdE_rg (k : Int) (l : List Int) : (rdE k l).Rg := (agnG_ok _ (rdG_wd k l) _ _).2
theorem pwE_len (x : Evt) : x.pw.length = 7 := by
  unfold Evt.pw
  split
  · exact frW_len _ _ _
  · rfl
def uqE (k : Int) (l : List Int) : Int := if 65 ≤ k ∧ k ≤ 69 then (if (rdE k l).e = 0 ∧ (rdE k l).pk = k ∧ (rdE k l).pw = l then 0 else 40) else 41
def uqI (k : Int) (l : List Int) : Evt := if uqE k l = 0 then rdE k l else zeroE
theorem res39 (fn : Func) (p u : Tmp) (h : fn.results = #[.cell p 39, .tmp u]) (tmps : Array Value) (w : World) (g : Nat) (cs : Array Value) (eu : Value)
    (hp : tmps.getD p undef = .pointer (some ⟨g, 0, none⟩)) (hu : tmps.getD u undef = eu) (hg : w.heap[g]? = some (.cells cs 39 (0, 0))) (hi : (Try.prog.info? 39).map (·.size) = some cs.size) :
    (results fn tmps).run Try.prog w = .ok (.tuple #[.agg cs, eu]) w := by
  have hp' : tmps[p]?.getD undef = .pointer (some ⟨g, 0, none⟩) := by simpa using hp
  have hu' : tmps[u]?.getD undef = eu := by simpa using hu
  simp [results, h, hp', hu', asAddr, run_loadVar_row w g 39 39 cs (0, 0) _ hg Try.underlying39 rfl hi]
set_option maxHeartbeats 4000000 in
set_option maxRecDepth 100000 in
theorem unpackE_any (k a0 a1 a2 a3 a4 a5 a6 : Int) (hk0 : 0 ≤ k) (hk : k < 256) (ha : ∀ x ∈ [a0, a1, a2, a3, a4, a5, a6], Wd x) (w : World) :
    Calls Try.prog 12 #[.agg (frV k [a0, a1, a2, a3, a4, a5, a6])] w fun e w' => e = .returned (.tuple #[.agg (uqI k [a0, a1, a2, a3, a4, a5, a6]).v, .int .i64 (uqE k [a0, a1, a2, a3, a4, a5, a6])]) ∧ Below w.heap.size w w' := by
  by_cases hin : 65 ≤ k ∧ k ≤ 69
  · obtain ⟨h1, h4⟩ := hin
    have hE : uqE k [a0, a1, a2, a3, a4, a5, a6] = if (rdE k [a0, a1, a2, a3, a4, a5, a6]).e = 0 ∧ (rdE k [a0, a1, a2, a3, a4, a5, a6]).pk = k ∧ (rdE k [a0, a1, a2, a3, a4, a5, a6]).pw = [a0, a1, a2, a3, a4, a5, a6] then 0 else 40 := by unfold uqE; rw [if_pos ⟨h1, h4⟩]
    have RF := hid (fun w => readFrame_any k a0 a1 a2 a3 a4 a5 a6 ha w)
    have IN := hid (fun b n w => event_any k b n (only (tagsL k) (rdG k [a0, a1, a2, a3, a4, a5, a6])) w (by omega) (by omega))
    rw [evtV_rd k [a0, a1, a2, a3, a4, a5, a6] h1 h4] at IN
    have PA := hid (fun w => packE_any (rdE k [a0, a1, a2, a3, a4, a5, a6]) (rdE_ok k [a0, a1, a2, a3, a4, a5, a6]) w)
    have IK := isEvent_any k
    rw [show decide (65 ≤ k ∧ k ≤ 69) = true from by simp [h1, h4]] at IK
    obtain ⟨Y, hY⟩ : ∃ y, rdE k [a0, a1, a2, a3, a4, a5, a6] = y := ⟨_, rfl⟩
    rw [hY] at PA IN hE
    have hfa : frV k [a0, a1, a2, a3, a4, a5, a6] = #[.int .u8 k, .int .u64 a0, .int .u64 a1, .int .u64 a2, .int .u64 a3, .int .u64 a4, .int .u64 a5, .int .u64 a6] := rfl
    rw [hfa] at RF
    obtain ⟨b0, b1, b2, b3, b4, b5, b6, hl⟩ := list7 (pwE_len Y)
    obtain ⟨K, hK⟩ : ∃ y, Y.pk = y := ⟨_, rfl⟩
    obtain ⟨E, hEE⟩ : ∃ y, Y.e = y := ⟨_, rfl⟩
    have hfb0 : frV K [b0, b1, b2, b3, b4, b5, b6] = #[.int .u8 K, .int .u64 b0, .int .u64 b1, .int .u64 b2, .int .u64 b3, .int .u64 b4, .int .u64 b5, .int .u64 b6] := rfl
    rw [hl, hK, hEE] at PA hE
    rw [hfb0] at PA
    clear hl hK hEE hfb0
    by_cases hok : E = 0 ∧ K = k ∧ [b0, b1, b2, b3, b4, b5, b6] = [a0, a1, a2, a3, a4, a5, a6]
    · rw [if_pos hok] at hE
      have hI : uqI k [a0, a1, a2, a3, a4, a5, a6] = Y := by unfold uqI; rw [if_pos hE, hY]
      rw [hI, hE]
      obtain ⟨rfl, rfl, hw⟩ := hok
      obtain ⟨rfl, rfl, rfl, rfl, rfl, rfl, rfl⟩ : b0 = a0 ∧ b1 = a1 ∧ b2 = a2 ∧ b3 = a3 ∧ b4 = a4 ∧ b5 = a5 ∧ b6 = a6 := by simpa using hw
      have q := eqFr_same K b0 b1 b2 b3 b4 b5 b6
      clear hE hI hw hY ha h1 h4
      unfold Evt.v eV at PA IN
      rw [hfa]
      clear hfa
      go_enter Try.func12, Try.ntmps12
      go_wp2_with (first | (go_at_call 29; refine (IK _).mono ?_; rintro e wq ⟨rfl, rfl⟩) | (go_at_call 21; refine (RF.out _).mono ?_; rintro e w2 ⟨b, n, rfl, _, _, hF, hb⟩; have HF2 := hid hF; have HB2 := hid hb; clear hF hb; refine Hid.out ?_))
      have HR0 := hid (row_on (show ((w.alloc (.cells (frV K [b0, b1, b2, b3, b4, b5, b6]) 30)).alloc (.cells zeroE.v 39)).heap[w.heap.size]? = some (.cells (frV K [b0, b1, b2, b3, b4, b5, b6]) 30 (0, 0)) from row_on (heap_alloc_new _ _) (ball _ _)) HB2.out)
      have HZ0 := hid (row_on (heap2 w (.cells (frV K [b0, b1, b2, b3, b4, b5, b6]) 30) (.cells zeroE.v 39)) HB2.out)
      have HW0 := hid (btr (btr (ball _ _) (ball _ _)) HB2.out)
      clear RF HB2
      refine hid ?_
      go_wp2_with (first | (go_at_call 30; refine (IN.out _ _ _ HF2.out).mono ?_; rintro e w3 ⟨rfl, hb⟩; have HB3 := hid hb; clear hb; refine Hid.out ?_))
      have HR1 := hid (show (w3.alloc (.cells Y.v 39)).heap[w.heap.size]? = some (.cells (frV K [b0, b1, b2, b3, b4, b5, b6]) 30 (0, 0)) from row_on (row_on HR0.out HB3.out) (ball _ _))
      have HZ1 := hid (show (w3.alloc (.cells Y.v 39)).heap[w.heap.size + 1]? = some (.cells zeroE.v 39 (0, 0)) from row_on (row_on HZ0.out HB3.out) (ball _ _))
      have HW1 := hid (show Below w.heap.size w (w3.alloc (.cells Y.v 39)) from btr (btr HW0.out HB3.out) (ball _ _))
      have HY1 := hid (show (w3.alloc (.cells Y.v 39)).heap[w3.heap.size]? = some (.cells Y.v 39 (0, 0)) from heap_alloc_new _ _)
      clear HR0 HZ0 HW0 HB3 IN HF2
      unfold Evt.v eV at HR1 HZ1 HW1 HY1
      refine hid ?_
      go_wp2_with (first | (go_at_call 10; refine (PA.out _).mono ?_; rintro e w4 ⟨rfl, hb⟩; have HB4 := hid hb; clear hb; refine Hid.out ?_))
      have HR2 := hid (show (w4.alloc (.cells (frV K [b0, b1, b2, b3, b4, b5, b6]) 30)).heap[w.heap.size]? = some (.cells (frV K [b0, b1, b2, b3, b4, b5, b6]) 30 (0, 0)) from row_on (row_on HR1.out HB4.out) (ball _ _))
      have HZ2 := hid (show (w4.alloc (.cells (frV K [b0, b1, b2, b3, b4, b5, b6]) 30)).heap[w.heap.size + 1]? = some (.cells zeroE.v 39 (0, 0)) from row_on (row_on HZ1.out HB4.out) (ball _ _))
      have HW2 := hid (show Below w.heap.size w (w4.alloc (.cells (frV K [b0, b1, b2, b3, b4, b5, b6]) 30)) from btr (btr HW1.out HB4.out) (ball _ _))
      have HY2 := hid (show (w4.alloc (.cells (frV K [b0, b1, b2, b3, b4, b5, b6]) 30)).heap[w3.heap.size]? = some (.cells Y.v 39 (0, 0)) from row_on (row_on HY1.out HB4.out) (ball _ _))
      have hfb : frV K [b0, b1, b2, b3, b4, b5, b6] = #[.int .u8 K, .int .u64 b0, .int .u64 b1, .int .u64 b2, .int .u64 b3, .int .u64 b4, .int .u64 b5, .int .u64 b6] := rfl
      rw [hfb] at HR2 HZ2 HW2 HY2
      clear HR1 HZ1 HW1 HY1 HB4 PA hfb
      obtain ⟨d0, d1, d2, d3, d4, d5, d6, d7⟩ := cells_F HR2.out
      refine hid ?_
      obtain ⟨g0, g1, g2, g3, g4, g5, g6, g7, g8, g9, g10, g11, g12⟩ := cells_E HY2.out
      go_wp2_with (first | (refine wpList_st (by rfl) 39 (.tmp 2) (.tmp 28) (by rfl) (w.heap.size + 1) Y.v (by rfl) (by rfl) 39 zeroE.v HZ2.out info39 rfl (by simp [Evt.v, eV, Value.oneCell']) ?_; intro w5 hst; have HST := hid hst; clear hst; refine Hid.out ?_))
      refine hid ?_
      go_wp2
      exact bodyPost_ret (res39 Try.f12 2 3 Try.results12 _ _ (w.heap.size + 1) Y.v _ (by rfl) (by rfl) HST.out.row info39) rfl ⟨rfl, HST.out.bel _ _ HW2.out (by omega)⟩
    · rw [if_neg hok] at hE
      have hI : uqI k [a0, a1, a2, a3, a4, a5, a6] = zeroE := by unfold uqI; rw [if_neg (by omega)]
      rw [hI, hE]
      clear hI hE hY ha h1 h4
      by_cases hE0 : E = 0
      · subst hE0
        have q := eqFr_no K k b0 b1 b2 b3 b4 b5 b6 a0 a1 a2 a3 a4 a5 a6 (fun h => hok ⟨rfl, h.1, h.2⟩)
        clear hok
        unfold Evt.v eV at PA IN
        rw [hfa]
        clear hfa
        go_enter Try.func12, Try.ntmps12
        go_wp2_with (first | (go_at_call 29; refine (IK _).mono ?_; rintro e wq ⟨rfl, rfl⟩) | (go_at_call 21; refine (RF.out _).mono ?_; rintro e w2 ⟨b, n, rfl, _, _, hF, hb⟩; have HF2 := hid hF; have HB2 := hid hb; clear hF hb; refine Hid.out ?_))
        have HR0 := hid (row_on (show ((w.alloc (.cells (frV k [a0, a1, a2, a3, a4, a5, a6]) 30)).alloc (.cells zeroE.v 39)).heap[w.heap.size]? = some (.cells (frV k [a0, a1, a2, a3, a4, a5, a6]) 30 (0, 0)) from row_on (heap_alloc_new _ _) (ball _ _)) HB2.out)
        have HZ0 := hid (row_on (heap2 w (.cells (frV k [a0, a1, a2, a3, a4, a5, a6]) 30) (.cells zeroE.v 39)) HB2.out)
        have HW0 := hid (btr (btr (ball _ _) (ball _ _)) HB2.out)
        clear RF HB2
        refine hid ?_
        go_wp2_with (first | (go_at_call 30; refine (IN.out _ _ _ HF2.out).mono ?_; rintro e w3 ⟨rfl, hb⟩; have HB3 := hid hb; clear hb; refine Hid.out ?_))
        have HR1 := hid (show (w3.alloc (.cells Y.v 39)).heap[w.heap.size]? = some (.cells (frV k [a0, a1, a2, a3, a4, a5, a6]) 30 (0, 0)) from row_on (row_on HR0.out HB3.out) (ball _ _))
        have HZ1 := hid (show (w3.alloc (.cells Y.v 39)).heap[w.heap.size + 1]? = some (.cells zeroE.v 39 (0, 0)) from row_on (row_on HZ0.out HB3.out) (ball _ _))
        have HW1 := hid (show Below w.heap.size w (w3.alloc (.cells Y.v 39)) from btr (btr HW0.out HB3.out) (ball _ _))
        have HY1 := hid (show (w3.alloc (.cells Y.v 39)).heap[w3.heap.size]? = some (.cells Y.v 39 (0, 0)) from heap_alloc_new _ _)
        clear HR0 HZ0 HW0 HB3 IN HF2
        unfold Evt.v eV at HR1 HZ1 HW1 HY1
        refine hid ?_
        go_wp2_with (first | (go_at_call 10; refine (PA.out _).mono ?_; rintro e w4 ⟨rfl, hb⟩; have HB4 := hid hb; clear hb; refine Hid.out ?_))
        have HR2 := hid (show (w4.alloc (.cells (frV K [b0, b1, b2, b3, b4, b5, b6]) 30)).heap[w.heap.size]? = some (.cells (frV k [a0, a1, a2, a3, a4, a5, a6]) 30 (0, 0)) from row_on (row_on HR1.out HB4.out) (ball _ _))
        have HZ2 := hid (show (w4.alloc (.cells (frV K [b0, b1, b2, b3, b4, b5, b6]) 30)).heap[w.heap.size + 1]? = some (.cells zeroE.v 39 (0, 0)) from row_on (row_on HZ1.out HB4.out) (ball _ _))
        have HW2 := hid (show Below w.heap.size w (w4.alloc (.cells (frV K [b0, b1, b2, b3, b4, b5, b6]) 30)) from btr (btr HW1.out HB4.out) (ball _ _))
        have HY2 := hid (show (w4.alloc (.cells (frV K [b0, b1, b2, b3, b4, b5, b6]) 30)).heap[w3.heap.size]? = some (.cells Y.v 39 (0, 0)) from row_on (row_on HY1.out HB4.out) (ball _ _))
        have hfb : frV K [b0, b1, b2, b3, b4, b5, b6] = #[.int .u8 K, .int .u64 b0, .int .u64 b1, .int .u64 b2, .int .u64 b3, .int .u64 b4, .int .u64 b5, .int .u64 b6] := rfl
        rw [hfb] at HR2 HZ2 HW2 HY2
        clear HR1 HZ1 HW1 HY1 HB4 PA hfb
        obtain ⟨d0, d1, d2, d3, d4, d5, d6, d7⟩ := cells_F HR2.out
        refine hid ?_
        go_wp2_with (first | (refine wpList_st (by rfl) 39 (.tmp 2) (.tmp 27) (by rfl) (w.heap.size + 1) zeroE.v (by rfl) (by rfl) 39 zeroE.v HZ2.out info39 rfl (by simp [zeroE, Evt.v, eV, Value.oneCell']) ?_; intro w5 hst; have HST := hid hst; clear hst; refine Hid.out ?_))
        refine hid ?_
        go_wp2
        exact bodyPost_ret (res39 Try.f12 2 3 Try.results12 _ _ (w.heap.size + 1) zeroE.v _ (by rfl) (by rfl) HST.out.row info39) rfl ⟨rfl, HST.out.bel _ _ HW2.out (by omega)⟩
      · have hne : (E != 0) = true := by simpa using hE0
        clear hok hE0
        unfold Evt.v eV at PA IN
        rw [hfa]
        clear hfa
        go_enter Try.func12, Try.ntmps12
        go_wp2_with (first | (go_at_call 29; refine (IK _).mono ?_; rintro e wq ⟨rfl, rfl⟩) | (go_at_call 21; refine (RF.out _).mono ?_; rintro e w2 ⟨b, n, rfl, _, _, hF, hb⟩; have HF2 := hid hF; have HB2 := hid hb; clear hF hb; refine Hid.out ?_))
        have HR0 := hid (row_on (show ((w.alloc (.cells (frV k [a0, a1, a2, a3, a4, a5, a6]) 30)).alloc (.cells zeroE.v 39)).heap[w.heap.size]? = some (.cells (frV k [a0, a1, a2, a3, a4, a5, a6]) 30 (0, 0)) from row_on (heap_alloc_new _ _) (ball _ _)) HB2.out)
        have HZ0 := hid (row_on (heap2 w (.cells (frV k [a0, a1, a2, a3, a4, a5, a6]) 30) (.cells zeroE.v 39)) HB2.out)
        have HW0 := hid (btr (btr (ball _ _) (ball _ _)) HB2.out)
        clear RF HB2
        refine hid ?_
        go_wp2_with (first | (go_at_call 30; refine (IN.out _ _ _ HF2.out).mono ?_; rintro e w3 ⟨rfl, hb⟩; have HB3 := hid hb; clear hb; refine Hid.out ?_))
        have HR1 := hid (show (w3.alloc (.cells Y.v 39)).heap[w.heap.size]? = some (.cells (frV k [a0, a1, a2, a3, a4, a5, a6]) 30 (0, 0)) from row_on (row_on HR0.out HB3.out) (ball _ _))
        have HZ1 := hid (show (w3.alloc (.cells Y.v 39)).heap[w.heap.size + 1]? = some (.cells zeroE.v 39 (0, 0)) from row_on (row_on HZ0.out HB3.out) (ball _ _))
        have HW1 := hid (show Below w.heap.size w (w3.alloc (.cells Y.v 39)) from btr (btr HW0.out HB3.out) (ball _ _))
        have HY1 := hid (show (w3.alloc (.cells Y.v 39)).heap[w3.heap.size]? = some (.cells Y.v 39 (0, 0)) from heap_alloc_new _ _)
        clear HR0 HZ0 HW0 HB3 IN HF2
        unfold Evt.v eV at HR1 HZ1 HW1 HY1
        refine hid ?_
        go_wp2_with (first | (go_at_call 10; refine (PA.out _).mono ?_; rintro e w4 ⟨rfl, hb⟩; have HB4 := hid hb; clear hb; refine Hid.out ?_))
        have HR2 := hid (show (w4.alloc (.cells (frV K [b0, b1, b2, b3, b4, b5, b6]) 30)).heap[w.heap.size]? = some (.cells (frV k [a0, a1, a2, a3, a4, a5, a6]) 30 (0, 0)) from row_on (row_on HR1.out HB4.out) (ball _ _))
        have HZ2 := hid (show (w4.alloc (.cells (frV K [b0, b1, b2, b3, b4, b5, b6]) 30)).heap[w.heap.size + 1]? = some (.cells zeroE.v 39 (0, 0)) from row_on (row_on HZ1.out HB4.out) (ball _ _))
        have HW2 := hid (show Below w.heap.size w (w4.alloc (.cells (frV K [b0, b1, b2, b3, b4, b5, b6]) 30)) from btr (btr HW1.out HB4.out) (ball _ _))
        have HY2 := hid (show (w4.alloc (.cells (frV K [b0, b1, b2, b3, b4, b5, b6]) 30)).heap[w3.heap.size]? = some (.cells Y.v 39 (0, 0)) from row_on (row_on HY1.out HB4.out) (ball _ _))
        have hfb : frV K [b0, b1, b2, b3, b4, b5, b6] = #[.int .u8 K, .int .u64 b0, .int .u64 b1, .int .u64 b2, .int .u64 b3, .int .u64 b4, .int .u64 b5, .int .u64 b6] := rfl
        rw [hfb] at HR2 HZ2 HW2 HY2
        clear HR1 HZ1 HW1 HY1 HB4 PA hfb
        obtain ⟨d0, d1, d2, d3, d4, d5, d6, d7⟩ := cells_F HR2.out
        refine hid ?_
        go_wp2_with (first | (refine wpList_st (by rfl) 39 (.tmp 2) (.tmp 27) (by rfl) (w.heap.size + 1) zeroE.v (by rfl) (by rfl) 39 zeroE.v HZ2.out info39 rfl (by simp [zeroE, Evt.v, eV, Value.oneCell']) ?_; intro w5 hst; have HST := hid hst; clear hst; refine Hid.out ?_))
        refine hid ?_
        go_wp2
        exact bodyPost_ret (res39 Try.f12 2 3 Try.results12 _ _ (w.heap.size + 1) zeroE.v _ (by rfl) (by rfl) HST.out.row info39) rfl ⟨rfl, HST.out.bel _ _ HW2.out (by omega)⟩
  · have hE : uqE k [a0, a1, a2, a3, a4, a5, a6] = 41 := by unfold uqE; rw [if_neg hin]
    have hI : uqI k [a0, a1, a2, a3, a4, a5, a6] = zeroE := by unfold uqI; rw [if_neg (by omega)]
    rw [hI, hE]
    have IK := isEvent_any k
    rw [show decide (65 ≤ k ∧ k ≤ 69) = false from by simpa using hin] at IK
    have hfa : frV k [a0, a1, a2, a3, a4, a5, a6] = #[.int .u8 k, .int .u64 a0, .int .u64 a1, .int .u64 a2, .int .u64 a3, .int .u64 a4, .int .u64 a5, .int .u64 a6] := rfl
    rw [hfa]
    clear hfa hin hE hI ha
    go_enter Try.func12, Try.ntmps12
    go_wp2_with (go_at_call 29; refine (IK _).mono ?_; rintro e wq ⟨rfl, rfl⟩)
    exact bodyPost_ret (res39 Try.f12 2 3 Try.results12 _ _ (w.heap.size + 1) zeroE.v _ (by rfl) (by rfl) (heap2 _ _ _) info39) rfl ⟨rfl, btr (ball _ _) (ball _ _)⟩
end Go.Proofs.Ytnhipamajelalaa
