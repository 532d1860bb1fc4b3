/-
  Unpack.
-/
import Derived.Test.YtnhipamajelalaaMgR
import Derived.Test.YtnhipamajelalaaMgL
namespace Go.Proofs.Ytnhipamajelalaa
open Go.RowKit Go.Maps Go.Deep Go.Lib
set_option linter.unusedVariables false
set_option linter.unusedSimpArgs false

def zeroI : Inp := ⟨0, 0, 0, 0, 0, 0, 0, 0, 0, 0, 0⟩
def agnF (f : Int → Int) (k : Int) (L : List Int) : Inp := L.foldl (fun y t => y.set t (f t)) (bareI k)
theorem agnF_l (f : Int → Int) (k : Int) (h1 : 1 ≤ k) (h4 : k ≤ 4) : (agnF f k (tagsL k)).l = iL k (only (tagsL k) f) := by
  obtain rfl | rfl | rfl | rfl : k = 1 ∨ k = 2 ∨ k = 3 ∨ k = 4 := by omega
  all_goals simp [agnF, tagsL, bareI, Inp.set, iL, only, Inp.l]
  all_goals simp [u32, s64, wrap64]
/-- the input that stands in a frame. -/
def rdI (k : Int) (l : List Int) : Inp := agnF (rdG k l) k (tagsL k)
theorem inpV_rd (k : Int) (l : List Int) (h1 : 1 ≤ k) (h4 : k ≤ 4) : inpV k (only (tagsL k) (rdG k l)) = (rdI k l).v := (iL_iff k _ (rdI k l)).1 (agnF_l (rdG k l) k h1 h4).symm
theorem s64_rg (n : Int) : -9223372036854775808 ≤ s64 n ∧ s64 n < 9223372036854775808 := by unfold s64 wrap64; omega
theorem set_ok (x : Inp) (hx : x.Ok) (hr : x.Rg) (t n : Int) (hn : Wd n) : (x.set t n).Ok ∧ (x.set t n).Rg := by
  unfold Inp.set
  repeat' split
  all_goals exact ⟨⟨by first | exact hn | exact hx.id, by first | exact hn | exact hx.tg, by first | exact hx.me | (simp only [u32]; omega), by first | exact hn | exact hx.qt, by first | exact hn | exact hx.pe⟩, ⟨by first | exact s64_rg n | exact hr.si, by first | exact s64_rg n | exact hr.ty, by first | exact s64_rg n | exact hr.pr, by first | exact s64_rg n | exact hr.en⟩⟩
theorem agnF_ok (f : Int → Int) (hf : ∀ t, Wd (f t)) (k : Int) (L : List Int) : (agnF f k L).Ok ∧ (agnF f k L).Rg := by
  have hb : (bareI k).Ok ∧ (bareI k).Rg := by
    unfold bareI
    split <;> exact ⟨⟨by simp [Wd], by simp [Wd], by simp, by simp [Wd], by simp [Wd]⟩, ⟨by simp, by simp, by simp, by simp⟩⟩
  unfold agnF
  generalize bareI k = y at hb
  induction L generalizing y with
  | nil => exact hb
  | cons t L ih => exact ih _ (set_ok y hb.1 hb.2 t (f t) (hf t))
theorem rdI_ok (k : Int) (l : List Int) : (rdI k l).Ok := (agnF_ok _ (rdG_wd k l) k _).1
theorem rdI_rg (k : Int) (l : List Int) : (rdI k l).Rg := (agnF_ok _ (rdG_wd k l) k _).2
def upE (k : Int) (l : List Int) : Int := if 1 ≤ k ∧ k ≤ 4 then (if (rdI k l).e = 0 ∧ (rdI k l).pk = k ∧ (rdI k l).pw = l then 0 else 40) else 41
def upI (k : Int) (l : List Int) : Inp := if upE k l = 0 then rdI k l else zeroI
theorem res27 (fn : Func) (p u : Tmp) (h : fn.results = #[.cell p 27, .tmp u]) (tmps : Array Value) (w : World) (g : Nat) (cs : Array Value) (eu : Value)
    (hp : tmps.getD p undef = .pointer (some ⟨g, 0, none⟩)) (hu : tmps.getD u undef = eu) (hg : w.heap[g]? = some (.cells cs 27 (0, 0))) (hi : (Try.prog.info? 27).map (·.size) = some cs.size) :
    (results fn tmps).run Try.prog w = .ok (.tuple #[.agg cs, eu]) w := by
  have hp' : tmps[p]?.getD undef = .pointer (some ⟨g, 0, none⟩) := by simpa using hp
  have hu' : tmps[u]?.getD undef = eu := by simpa using hu
  simp [results, h, hp', hu', asAddr, run_loadVar_row w g 27 27 cs (0, 0) _ hg Try.underlying27 rfl hi]
theorem eqFr_no (K k b0 b1 b2 b3 b4 b5 b6 a0 a1 a2 a3 a4 a5 a6 : Int) (h : ¬ (K = k ∧ [b0, b1, b2, b3, b4, b5, b6] = [a0, a1, a2, a3, a4, a5, a6])) (w : World) : (Op.equalIn 10000 30 (.agg #[.int .u8 K, .int .u64 b0, .int .u64 b1, .int .u64 b2, .int .u64 b3, .int .u64 b4, .int .u64 b5, .int .u64 b6]) (.agg #[.int .u8 k, .int .u64 a0, .int .u64 a1, .int .u64 a2, .int .u64 a3, .int .u64 a4, .int .u64 a5, .int .u64 a6])).run Try.prog w = .ok false w := by
  have e := eqFr K k b0 b1 b2 b3 b4 b5 b6 a0 a1 a2 a3 a4 a5 a6 w
  have e2 : (Op.equalIn 10000 30 (.agg #[.int .u8 K, .int .u64 b0, .int .u64 b1, .int .u64 b2, .int .u64 b3, .int .u64 b4, .int .u64 b5, .int .u64 b6]) (.agg #[.int .u8 k, .int .u64 a0, .int .u64 a1, .int .u64 a2, .int .u64 a3, .int .u64 a4, .int .u64 a5, .int .u64 a6])).run Try.prog w = .ok ((K == k) && (((b0 == a0) && ((b1 == a1) && ((b2 == a2) && ((b3 == a3) && ((b4 == a4) && ((b5 == a5) && ((b6 == a6) && true))))))) && true)) w := by simpa [frV, uv] using e
  rw [e2]
  congr 1
  rw [Bool.eq_false_iff]
  intro e3
  apply h
  simp only [Bool.and_eq_true, beq_iff_eq] at e3
  obtain ⟨rfl, ⟨rfl, rfl, rfl, rfl, rfl, rfl, rfl, _⟩, _⟩ := e3
  exact ⟨rfl, rfl⟩
set_option maxHeartbeats 4000000 in
set_option maxRecDepth 100000 in
theorem unpack_any (k a0 a1 a2 a3 a4 a5 a6 : Int) (hk0 : 0 ≤ k) (hk : k < 256) (ha : ∀ x ∈ [a0, a1, a2, a3, a4, a5, a6], Wd x) (w : World) :
    Calls Try.prog 8 #[.agg (frV k [a0, a1, a2, a3, a4, a5, a6])] w fun e w' => e = .returned (.tuple #[.agg (upI k [a0, a1, a2, a3, a4, a5, a6]).v, .int .i64 (upE k [a0, a1, a2, a3, a4, a5, a6])]) ∧ Below w.heap.size w w' := by
  by_cases hin : 1 ≤ k ∧ k ≤ 4
  · obtain ⟨h1, h4⟩ := hin
    have hE : upE k [a0, a1, a2, a3, a4, a5, a6] = if (rdI k [a0, a1, a2, a3, a4, a5, a6]).e = 0 ∧ (rdI k [a0, a1, a2, a3, a4, a5, a6]).pk = k ∧ (rdI k [a0, a1, a2, a3, a4, a5, a6]).pw = [a0, a1, a2, a3, a4, a5, a6] then 0 else 40 := by unfold upE; rw [if_pos ⟨h1, h4⟩]
    have RF := hid (fun w => readFrame_any k a0 a1 a2 a3 a4 a5 a6 ha w)
    have IN := hid (fun b n w => input_any k b n (only (tagsL k) (rdG k [a0, a1, a2, a3, a4, a5, a6])) w (by omega) (by omega))
    rw [inpV_rd k [a0, a1, a2, a3, a4, a5, a6] h1 h4] at IN
    have PA := hid (fun w => pack_any (rdI k [a0, a1, a2, a3, a4, a5, a6]) (rdI_ok k [a0, a1, a2, a3, a4, a5, a6]) w)
    have IK := isInput_any k
    rw [show decide (1 ≤ k ∧ k ≤ 4) = true from by simp [h1, h4]] at IK
    obtain ⟨Y, hY⟩ : ∃ y, rdI k [a0, a1, a2, a3, a4, a5, a6] = y := ⟨_, rfl⟩
    rw [hY] at PA IN hE
    have hfa : frV k [a0, a1, a2, a3, a4, a5, a6] = #[.int .u8 k, .int .u64 a0, .int .u64 a1, .int .u64 a2, .int .u64 a3, .int .u64 a4, .int .u64 a5, .int .u64 a6] := rfl
    rw [hfa] at RF
    obtain ⟨b0, b1, b2, b3, b4, b5, b6, hl⟩ := list7 (pw_len Y)
    obtain ⟨K, hK⟩ : ∃ y, Y.pk = y := ⟨_, rfl⟩
    obtain ⟨E, hEE⟩ : ∃ y, Y.e = y := ⟨_, rfl⟩
    have hfb0 : frV K [b0, b1, b2, b3, b4, b5, b6] = #[.int .u8 K, .int .u64 b0, .int .u64 b1, .int .u64 b2, .int .u64 b3, .int .u64 b4, .int .u64 b5, .int .u64 b6] := rfl
    rw [hl, hK, hEE] at PA hE
    rw [hfb0] at PA
    clear hl hK hEE hfb0
    by_cases hok : E = 0 ∧ K = k ∧ [b0, b1, b2, b3, b4, b5, b6] = [a0, a1, a2, a3, a4, a5, a6]
    · rw [if_pos hok] at hE
      have hI : upI k [a0, a1, a2, a3, a4, a5, a6] = Y := by unfold upI; rw [if_pos hE, hY]
      rw [hI, hE]
      obtain ⟨rfl, rfl, hw⟩ := hok
      obtain ⟨rfl, rfl, rfl, rfl, rfl, rfl, rfl⟩ : b0 = a0 ∧ b1 = a1 ∧ b2 = a2 ∧ b3 = a3 ∧ b4 = a4 ∧ b5 = a5 ∧ b6 = a6 := by simpa using hw
      have q := eqFr_same K b0 b1 b2 b3 b4 b5 b6
      clear hE hI hw hY ha h1 h4
      unfold Inp.v iV at PA IN
      rw [hfa]
      clear hfa
      go_enter Try.func8, Try.ntmps8
      go_wp2_with (first | (go_at_call 20; refine (IK _).mono ?_; rintro e wq ⟨rfl, rfl⟩) | (go_at_call 21; refine (RF.out _).mono ?_; rintro e w2 ⟨b, n, rfl, _, _, hF, hb⟩; have HF2 := hid hF; have HB2 := hid hb; clear hF hb; refine Hid.out ?_))
      have HR0 := hid (row_on (show ((w.alloc (.cells (frV K [b0, b1, b2, b3, b4, b5, b6]) 30)).alloc (.cells zeroI.v 27)).heap[w.heap.size]? = some (.cells (frV K [b0, b1, b2, b3, b4, b5, b6]) 30 (0, 0)) from row_on (heap_alloc_new _ _) (ball _ _)) HB2.out)
      have HZ0 := hid (row_on (heap2 w (.cells (frV K [b0, b1, b2, b3, b4, b5, b6]) 30) (.cells zeroI.v 27)) HB2.out)
      have HW0 := hid (btr (btr (ball _ _) (ball _ _)) HB2.out)
      clear RF HB2
      refine hid ?_
      go_wp2_with (first | (go_at_call 22; refine (IN.out _ _ _ HF2.out).mono ?_; rintro e w3 ⟨rfl, hb⟩; have HB3 := hid hb; clear hb; refine Hid.out ?_))
      have HR1 := hid (show (w3.alloc (.cells Y.v 27)).heap[w.heap.size]? = some (.cells (frV K [b0, b1, b2, b3, b4, b5, b6]) 30 (0, 0)) from row_on (row_on HR0.out HB3.out) (ball _ _))
      have HZ1 := hid (show (w3.alloc (.cells Y.v 27)).heap[w.heap.size + 1]? = some (.cells zeroI.v 27 (0, 0)) from row_on (row_on HZ0.out HB3.out) (ball _ _))
      have HW1 := hid (show Below w.heap.size w (w3.alloc (.cells Y.v 27)) from btr (btr HW0.out HB3.out) (ball _ _))
      have HY1 := hid (show (w3.alloc (.cells Y.v 27)).heap[w3.heap.size]? = some (.cells Y.v 27 (0, 0)) from heap_alloc_new _ _)
      clear HR0 HZ0 HW0 HB3 IN HF2
      unfold Inp.v iV at HR1 HZ1 HW1 HY1
      refine hid ?_
      go_wp2_with (first | (go_at_call 6; refine (PA.out _).mono ?_; rintro e w4 ⟨rfl, hb⟩; have HB4 := hid hb; clear hb; refine Hid.out ?_))
      have HR2 := hid (show (w4.alloc (.cells (frV K [b0, b1, b2, b3, b4, b5, b6]) 30)).heap[w.heap.size]? = some (.cells (frV K [b0, b1, b2, b3, b4, b5, b6]) 30 (0, 0)) from row_on (row_on HR1.out HB4.out) (ball _ _))
      have HZ2 := hid (show (w4.alloc (.cells (frV K [b0, b1, b2, b3, b4, b5, b6]) 30)).heap[w.heap.size + 1]? = some (.cells zeroI.v 27 (0, 0)) from row_on (row_on HZ1.out HB4.out) (ball _ _))
      have HW2 := hid (show Below w.heap.size w (w4.alloc (.cells (frV K [b0, b1, b2, b3, b4, b5, b6]) 30)) from btr (btr HW1.out HB4.out) (ball _ _))
      have HY2 := hid (show (w4.alloc (.cells (frV K [b0, b1, b2, b3, b4, b5, b6]) 30)).heap[w3.heap.size]? = some (.cells Y.v 27 (0, 0)) from row_on (row_on HY1.out HB4.out) (ball _ _))
      have hfb : frV K [b0, b1, b2, b3, b4, b5, b6] = #[.int .u8 K, .int .u64 b0, .int .u64 b1, .int .u64 b2, .int .u64 b3, .int .u64 b4, .int .u64 b5, .int .u64 b6] := rfl
      rw [hfb] at HR2 HZ2 HW2 HY2
      clear HR1 HZ1 HW1 HY1 HB4 PA hfb
      obtain ⟨d0, d1, d2, d3, d4, d5, d6, d7⟩ := cells_F HR2.out
      refine hid ?_
      obtain ⟨g0, g1, g2, g3, g4, g5, g6, g7, g8, g9, g10⟩ := cells_I HY2.out
      go_wp2_with (first | (refine wpList_st (by rfl) 27 (.tmp 2) (.tmp 28) (by rfl) (w.heap.size + 1) Y.v (by rfl) (by rfl) 27 zeroI.v HZ2.out info27 rfl (by simp [Inp.v, iV, Value.oneCell']) ?_; intro w5 hst; have HST := hid hst; clear hst; refine Hid.out ?_))
      refine hid ?_
      go_wp2
      exact bodyPost_ret (res27 Try.f8 2 3 Try.results8 _ _ (w.heap.size + 1) Y.v _ (by rfl) (by rfl) HST.out.row info27) rfl ⟨rfl, HST.out.bel _ _ HW2.out (by omega)⟩
    · rw [if_neg hok] at hE
      have hI : upI k [a0, a1, a2, a3, a4, a5, a6] = zeroI := by unfold upI; rw [if_neg (by omega)]
      rw [hI, hE]
      clear hI hE hY ha h1 h4
      by_cases hE0 : E = 0
      · subst hE0
        have q := eqFr_no K k b0 b1 b2 b3 b4 b5 b6 a0 a1 a2 a3 a4 a5 a6 (fun h => hok ⟨rfl, h.1, h.2⟩)
        clear hok
        unfold Inp.v iV at PA IN
        rw [hfa]
        clear hfa
        go_enter Try.func8, Try.ntmps8
        go_wp2_with (first | (go_at_call 20; refine (IK _).mono ?_; rintro e wq ⟨rfl, rfl⟩) | (go_at_call 21; refine (RF.out _).mono ?_; rintro e w2 ⟨b, n, rfl, _, _, hF, hb⟩; have HF2 := hid hF; have HB2 := hid hb; clear hF hb; refine Hid.out ?_))
        have HR0 := hid (row_on (show ((w.alloc (.cells (frV k [a0, a1, a2, a3, a4, a5, a6]) 30)).alloc (.cells zeroI.v 27)).heap[w.heap.size]? = some (.cells (frV k [a0, a1, a2, a3, a4, a5, a6]) 30 (0, 0)) from row_on (heap_alloc_new _ _) (ball _ _)) HB2.out)
        have HZ0 := hid (row_on (heap2 w (.cells (frV k [a0, a1, a2, a3, a4, a5, a6]) 30) (.cells zeroI.v 27)) HB2.out)
        have HW0 := hid (btr (btr (ball _ _) (ball _ _)) HB2.out)
        clear RF HB2
        refine hid ?_
        go_wp2_with (first | (go_at_call 22; refine (IN.out _ _ _ HF2.out).mono ?_; rintro e w3 ⟨rfl, hb⟩; have HB3 := hid hb; clear hb; refine Hid.out ?_))
        have HR1 := hid (show (w3.alloc (.cells Y.v 27)).heap[w.heap.size]? = some (.cells (frV k [a0, a1, a2, a3, a4, a5, a6]) 30 (0, 0)) from row_on (row_on HR0.out HB3.out) (ball _ _))
        have HZ1 := hid (show (w3.alloc (.cells Y.v 27)).heap[w.heap.size + 1]? = some (.cells zeroI.v 27 (0, 0)) from row_on (row_on HZ0.out HB3.out) (ball _ _))
        have HW1 := hid (show Below w.heap.size w (w3.alloc (.cells Y.v 27)) from btr (btr HW0.out HB3.out) (ball _ _))
        have HY1 := hid (show (w3.alloc (.cells Y.v 27)).heap[w3.heap.size]? = some (.cells Y.v 27 (0, 0)) from heap_alloc_new _ _)
        clear HR0 HZ0 HW0 HB3 IN HF2
        unfold Inp.v iV at HR1 HZ1 HW1 HY1
        refine hid ?_
        go_wp2_with (first | (go_at_call 6; refine (PA.out _).mono ?_; rintro e w4 ⟨rfl, hb⟩; have HB4 := hid hb; clear hb; refine Hid.out ?_))
        have HR2 := hid (show (w4.alloc (.cells (frV K [b0, b1, b2, b3, b4, b5, b6]) 30)).heap[w.heap.size]? = some (.cells (frV k [a0, a1, a2, a3, a4, a5, a6]) 30 (0, 0)) from row_on (row_on HR1.out HB4.out) (ball _ _))
        have HZ2 := hid (show (w4.alloc (.cells (frV K [b0, b1, b2, b3, b4, b5, b6]) 30)).heap[w.heap.size + 1]? = some (.cells zeroI.v 27 (0, 0)) from row_on (row_on HZ1.out HB4.out) (ball _ _))
        have HW2 := hid (show Below w.heap.size w (w4.alloc (.cells (frV K [b0, b1, b2, b3, b4, b5, b6]) 30)) from btr (btr HW1.out HB4.out) (ball _ _))
        have HY2 := hid (show (w4.alloc (.cells (frV K [b0, b1, b2, b3, b4, b5, b6]) 30)).heap[w3.heap.size]? = some (.cells Y.v 27 (0, 0)) from row_on (row_on HY1.out HB4.out) (ball _ _))
        have hfb : frV K [b0, b1, b2, b3, b4, b5, b6] = #[.int .u8 K, .int .u64 b0, .int .u64 b1, .int .u64 b2, .int .u64 b3, .int .u64 b4, .int .u64 b5, .int .u64 b6] := rfl
        rw [hfb] at HR2 HZ2 HW2 HY2
        clear HR1 HZ1 HW1 HY1 HB4 PA hfb
        obtain ⟨d0, d1, d2, d3, d4, d5, d6, d7⟩ := cells_F HR2.out
        refine hid ?_
        go_wp2_with (first | (refine wpList_st (by rfl) 27 (.tmp 2) (.tmp 27) (by rfl) (w.heap.size + 1) zeroI.v (by rfl) (by rfl) 27 zeroI.v HZ2.out info27 rfl (by simp [zeroI, Inp.v, iV, Value.oneCell']) ?_; intro w5 hst; have HST := hid hst; clear hst; refine Hid.out ?_))
        refine hid ?_
        go_wp2
        exact bodyPost_ret (res27 Try.f8 2 3 Try.results8 _ _ (w.heap.size + 1) zeroI.v _ (by rfl) (by rfl) HST.out.row info27) rfl ⟨rfl, HST.out.bel _ _ HW2.out (by omega)⟩
      · have hne : (E != 0) = true := by simpa using hE0
        clear hok hE0
        unfold Inp.v iV at PA IN
        rw [hfa]
        clear hfa
        go_enter Try.func8, Try.ntmps8
        go_wp2_with (first | (go_at_call 20; refine (IK _).mono ?_; rintro e wq ⟨rfl, rfl⟩) | (go_at_call 21; refine (RF.out _).mono ?_; rintro e w2 ⟨b, n, rfl, _, _, hF, hb⟩; have HF2 := hid hF; have HB2 := hid hb; clear hF hb; refine Hid.out ?_))
        have HR0 := hid (row_on (show ((w.alloc (.cells (frV k [a0, a1, a2, a3, a4, a5, a6]) 30)).alloc (.cells zeroI.v 27)).heap[w.heap.size]? = some (.cells (frV k [a0, a1, a2, a3, a4, a5, a6]) 30 (0, 0)) from row_on (heap_alloc_new _ _) (ball _ _)) HB2.out)
        have HZ0 := hid (row_on (heap2 w (.cells (frV k [a0, a1, a2, a3, a4, a5, a6]) 30) (.cells zeroI.v 27)) HB2.out)
        have HW0 := hid (btr (btr (ball _ _) (ball _ _)) HB2.out)
        clear RF HB2
        refine hid ?_
        go_wp2_with (first | (go_at_call 22; refine (IN.out _ _ _ HF2.out).mono ?_; rintro e w3 ⟨rfl, hb⟩; have HB3 := hid hb; clear hb; refine Hid.out ?_))
        have HR1 := hid (show (w3.alloc (.cells Y.v 27)).heap[w.heap.size]? = some (.cells (frV k [a0, a1, a2, a3, a4, a5, a6]) 30 (0, 0)) from row_on (row_on HR0.out HB3.out) (ball _ _))
        have HZ1 := hid (show (w3.alloc (.cells Y.v 27)).heap[w.heap.size + 1]? = some (.cells zeroI.v 27 (0, 0)) from row_on (row_on HZ0.out HB3.out) (ball _ _))
        have HW1 := hid (show Below w.heap.size w (w3.alloc (.cells Y.v 27)) from btr (btr HW0.out HB3.out) (ball _ _))
        have HY1 := hid (show (w3.alloc (.cells Y.v 27)).heap[w3.heap.size]? = some (.cells Y.v 27 (0, 0)) from heap_alloc_new _ _)
        clear HR0 HZ0 HW0 HB3 IN HF2
        unfold Inp.v iV at HR1 HZ1 HW1 HY1
        refine hid ?_
        go_wp2_with (first | (go_at_call 6; refine (PA.out _).mono ?_; rintro e w4 ⟨rfl, hb⟩; have HB4 := hid hb; clear hb; refine Hid.out ?_))
        have HR2 := hid (show (w4.alloc (.cells (frV K [b0, b1, b2, b3, b4, b5, b6]) 30)).heap[w.heap.size]? = some (.cells (frV k [a0, a1, a2, a3, a4, a5, a6]) 30 (0, 0)) from row_on (row_on HR1.out HB4.out) (ball _ _))
        have HZ2 := hid (show (w4.alloc (.cells (frV K [b0, b1, b2, b3, b4, b5, b6]) 30)).heap[w.heap.size + 1]? = some (.cells zeroI.v 27 (0, 0)) from row_on (row_on HZ1.out HB4.out) (ball _ _))
        have HW2 := hid (show Below w.heap.size w (w4.alloc (.cells (frV K [b0, b1, b2, b3, b4, b5, b6]) 30)) from btr (btr HW1.out HB4.out) (ball _ _))
        have HY2 := hid (show (w4.alloc (.cells (frV K [b0, b1, b2, b3, b4, b5, b6]) 30)).heap[w3.heap.size]? = some (.cells Y.v 27 (0, 0)) from row_on (row_on HY1.out HB4.out) (ball _ _))
        have hfb : frV K [b0, b1, b2, b3, b4, b5, b6] = #[.int .u8 K, .int .u64 b0, .int .u64 b1, .int .u64 b2, .int .u64 b3, .int .u64 b4, .int .u64 b5, .int .u64 b6] := rfl
        rw [hfb] at HR2 HZ2 HW2 HY2
        clear HR1 HZ1 HW1 HY1 HB4 PA hfb
        obtain ⟨d0, d1, d2, d3, d4, d5, d6, d7⟩ := cells_F HR2.out
        refine hid ?_
        go_wp2_with (first | (refine wpList_st (by rfl) 27 (.tmp 2) (.tmp 27) (by rfl) (w.heap.size + 1) zeroI.v (by rfl) (by rfl) 27 zeroI.v HZ2.out info27 rfl (by simp [zeroI, Inp.v, iV, Value.oneCell']) ?_; intro w5 hst; have HST := hid hst; clear hst; refine Hid.out ?_))
        refine hid ?_
        go_wp2
        exact bodyPost_ret (res27 Try.f8 2 3 Try.results8 _ _ (w.heap.size + 1) zeroI.v _ (by rfl) (by rfl) HST.out.row info27) rfl ⟨rfl, HST.out.bel _ _ HW2.out (by omega)⟩
  · have hE : upE k [a0, a1, a2, a3, a4, a5, a6] = 41 := by unfold upE; rw [if_neg hin]
    have hI : upI k [a0, a1, a2, a3, a4, a5, a6] = zeroI := by unfold upI; rw [if_neg (by omega)]
    rw [hI, hE]
    have IK := isInput_any k
    rw [show decide (1 ≤ k ∧ k ≤ 4) = false from by simpa using hin] at IK
    have hfa : frV k [a0, a1, a2, a3, a4, a5, a6] = #[.int .u8 k, .int .u64 a0, .int .u64 a1, .int .u64 a2, .int .u64 a3, .int .u64 a4, .int .u64 a5, .int .u64 a6] := rfl
    rw [hfa]
    clear hfa hin hE hI ha
    go_enter Try.func8, Try.ntmps8
    go_wp2_with (go_at_call 20; refine (IK _).mono ?_; rintro e wq ⟨rfl, rfl⟩)
    exact bodyPost_ret (res27 Try.f8 2 3 Try.results8 _ _ (w.heap.size + 1) zeroI.v _ (by rfl) (by rfl) (heap2 _ _ _) info27) rfl ⟨rfl, btr (ball _ _) (ball _ _)⟩
end Go.Proofs.Ytnhipamajelalaa
