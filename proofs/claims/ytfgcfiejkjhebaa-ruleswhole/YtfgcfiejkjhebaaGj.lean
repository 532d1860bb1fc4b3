/-
  crossed; Valid of a book that can be.
-/
import Derived.Test.YtfgcfiejkjhebaaGi
namespace Go.Proofs.Ytfgcfiejkjhebaa.Sr
open Go.RowKit Go.Deep
set_option linter.unusedVariables false
set_option linter.unusedSimpArgs false
set_option maxHeartbeats 8000000
set_option maxRecDepth 100000
theorem bdwN (w : World) (n : Nat) : Below w.heap.size w (w.drewN n) := ⟨rfl, rfl, rfl, Nat.le_refl _, fun _ _ => rfl⟩
/-- a book, as it is handed over. -/
structure Bo where
  cap : Int
  meet : Int
  pb : Option Addr
  cb : Nat
  b : List Rt
  ps : Option Addr
  cs : Nat
  s : List Rt
  high : Int
  seq : Int
def bor (x : Bo) : Array Value := #[.int .i64 x.cap, .int .i64 x.meet, .slice x.pb x.b.length x.cb, .slice x.ps x.s.length x.cs, .int .u64 x.high, .int .u64 x.seq]
theorem crossed_ok (x : Bo) (w : World) (hb : Rz w x.pb x.b) (hs : Rz w x.ps x.s) (hn : x.b.length + x.s.length ≤ 4096) (hx : ∀ (h1 : 0 < x.b.length) (h2 : 0 < x.s.length), (x.b[0]).pr < (x.s[0]).pr) :
    Calls Try.prog 25 #[.agg (bor x)] w fun e w' => e = .returned (.bool false) ∧ Below w.heap.size w w' := by
  obtain ⟨cap, meet, pb, cb, b, ps, cs, s, high, seq⟩ := x
  unfold bor
  simp only at *
  obtain ⟨W, hW⟩ : ∃ W, w.alloc (.cells #[.int .i64 cap, .int .i64 meet, .slice pb b.length cb, .slice ps s.length cs, .int .u64 high, .int .u64 seq] 36) = W := ⟨_, rfl⟩
  have HB := hid (show Below w.heap.size w W from by rw [← hW]; exact ball _ _)
  have hh : W.heap[w.heap.size]? = some (.cells #[.int .i64 cap, .int .i64 meet, .slice pb b.length cb, .slice ps s.length cs, .int .u64 high, .int .u64 seq] 36 (0, 0)) := by rw [← hW]; exact World.alloc_heap_new _ _
  have c2 : W.cell? ⟨w.heap.size, 2, none⟩ = some (.slice pb b.length cb) := row_cell hh 2
  have c3 : W.cell? ⟨w.heap.size, 3, none⟩ = some (.slice ps s.length cs) := row_cell hh 3
  have hb2 := hb.on HB.out
  have hs2 := hs.on HB.out
  clear hh hb hs
  by_cases h1 : 0 < b.length
  · by_cases h2 : 0 < s.length
    · obtain ⟨g, rfl, -, -, -, -, a3, -⟩ := hb2 0 h1
      obtain ⟨g', rfl, -, -, -, -, b3, -⟩ := hs2 0 h2
      have hlt := hx h1 h2
      obtain ⟨u, hu⟩ : ∃ u, (b[0]).pr = u := ⟨_, rfl⟩
      obtain ⟨v, hv⟩ : ∃ u, (s[0]).pr = u := ⟨_, rfl⟩
      rw [hu] at a3 hlt
      rw [hv] at b3 hlt
      simp only [Nat.zero_mul, Nat.zero_add] at a3 b3
      obtain ⟨n, hn1⟩ : ∃ n, b.length = n := ⟨_, rfl⟩
      obtain ⟨m, hm1⟩ : ∃ n, s.length = n := ⟨_, rfl⟩
      rw [hn1] at h1 hn c2 hW ⊢
      rw [hm1] at h2 hn c3 hW ⊢
      have n0 : (0 : Int) < (n : Int) := by omega
      have m0 : (0 : Int) < (m : Int) := by omega
      have huv : ¬ v ≤ u := by omega
      have dn : decide (0 < n) = true := decide_eq_true h1
      have dm : decide (0 < m) = true := decide_eq_true h2
      clear hb2 hs2 hx hu hv hn1 hm1
      go_enter Try.func25, Try.ntmps25
      go_upto_region 1 with fail
      clear hW
      go_big_quiet (fail)
      go_wp2
      go_ret
      exact ⟨by simp [huv], btr HB.out (bdwN _ _)⟩
    · have h3 : s.length = 0 := by omega
      rw [h3] at c3 hW ⊢
      obtain ⟨n, hn1⟩ : ∃ n, b.length = n := ⟨_, rfl⟩
      rw [hn1] at h1 hn c2 hW ⊢
      have n0 : (0 : Int) < (n : Int) := by omega
      have dn : decide (0 < n) = true := decide_eq_true h1
      clear hb2 hs2 hx hn1 h2
      go_enter Try.func25, Try.ntmps25
      go_upto_region 1 with fail
      clear hW
      go_big_quiet (fail)
      go_wp2
      go_ret
      exact ⟨rfl, btr HB.out (bdwN _ _)⟩
  · have h3 : b.length = 0 := by omega
    rw [h3] at c2 hW ⊢
    clear hb2 hs2 hx h1
    go_enter Try.func25, Try.ntmps25
    go_upto_region 1 with fail
    clear hW
    go_big_quiet (fail)
    go_wp2
    go_ret
    exact ⟨rfl, btr HB.out (bdwN _ _)⟩
end Go.Proofs.Ytfgcfiejkjhebaa.Sr
namespace Go.Proofs.Ytfgcfiejkjhebaa.Sr
open Go.RowKit Go.Deep
set_option linter.unusedVariables false
set_option linter.unusedSimpArgs false
set_option maxHeartbeats 8000000
set_option maxRecDepth 100000
/-- there can be such a book. -/
structure BoOk (x : Bo) : Prop where
  cap0 : 1 ≤ x.cap
  cap1 : x.cap ≤ 4096
  meet0 : 0 ≤ x.meet
  meet1 : x.meet ≤ 3
  few : (x.b.length : Int) + (x.s.length : Int) ≤ x.cap
  sb : SrR 1 x.b
  ss : SrR 2 x.s
  apart : ∀ (h1 : 0 < x.b.length) (h2 : 0 < x.s.length), (x.b[0]).pr < (x.s[0]).pr
  okb : ∀ i (hi : i < x.b.length), RtOk x.high x.b[i]
  oks : ∀ i (hi : i < x.s.length), RtOk x.high x.s[i]
  one : (x.b.map Rt.id ++ x.s.map Rt.id).Nodup
theorem valid_any (x : Bo) (w : World) (hb : Rz w x.pb x.b) (hs : Rz w x.ps x.s) (ho : BoOk x) :
    Calls Try.prog 10 #[.agg (bor x)] w fun e w' => e = .returned (.int .i64 0) ∧ Below w.heap.size w w' := by
  have hn : x.b.length + x.s.length ≤ 4096 := by have := ho.cap1; have := ho.few; omega
  have CC := hid (fun U => cfg_ok x.cap x.meet ho.cap0 ho.cap1 ho.meet0 ho.meet1 U)
  have C1 := hid (fun U (hU : Below w.heap.size w U) => inprio_any 1 x.pb x.cb x.b U (hb.on hU) (by omega) ho.sb)
  have C2 := hid (fun U (hU : Below w.heap.size w U) => inprio_any 2 x.ps x.cs x.s U (hs.on hU) (by omega) ho.ss)
  have CX := hid (fun U (hU : Below w.heap.size w U) => crossed_ok x U (hb.on hU) (hs.on hU) hn ho.apart)
  have C3 := hid (fun U (hU : Below w.heap.size w U) => ordok_any x.high x.pb x.cb x.b U (hb.on hU) (by omega) ho.okb)
  have C4 := hid (fun U (hU : Below w.heap.size w U) => ordok_any x.high x.ps x.cs x.s U (hs.on hU) (by omega) ho.oks)
  have CD := hid (fun q U (hU : Below w.heap.size w U) (hq : U.heap[q]? = some (.cells #[.slice x.pb x.b.length x.cb, .slice x.ps x.s.length x.cs] 34 (0, 0))) => distinct_any q x.pb x.ps x.cb x.cs x.b x.s U hq (hb.on hU) (hs.on hU) hn ho.one)
  have hf := ho.few
  clear hb hs ho
  obtain ⟨cap, meet, pb, cb, b, ps, cs, s, high, seq⟩ := x
  unfold bor at *
  simp only at *
  obtain ⟨n, hn1⟩ : ∃ n, b.length = n := ⟨_, rfl⟩
  obtain ⟨m, hm1⟩ : ∃ n, s.length = n := ⟨_, rfl⟩
  rw [hn1] at C1 C3 CD CX hf hn ⊢
  rw [hm1] at C2 C4 CD CX hf hn ⊢
  obtain ⟨W, hW⟩ : ∃ W, w.alloc (.cells #[.int .i64 cap, .int .i64 meet, .slice pb n cb, .slice ps m cs, .int .u64 high, .int .u64 seq] 36) = W := ⟨_, rfl⟩
  have HB := hid (show Below w.heap.size w W from by rw [← hW]; exact ball _ _)
  have hh : W.heap[w.heap.size]? = some (.cells #[.int .i64 cap, .int .i64 meet, .slice pb n cb, .slice ps m cs, .int .u64 high, .int .u64 seq] 36 (0, 0)) := by rw [← hW]; exact World.alloc_heap_new _ _
  have HH := hid (fun (U : World) (hU : Below W.heap.size W U) => show U.cell? ⟨w.heap.size, 0, none⟩ = some (.int .i64 cap) ∧ U.cell? ⟨w.heap.size, 1, none⟩ = some (.int .i64 meet) ∧ U.cell? ⟨w.heap.size, 2, none⟩ = some (.slice pb n cb) ∧ U.cell? ⟨w.heap.size, 3, none⟩ = some (.slice ps m cs) ∧ U.cell? ⟨w.heap.size, 4, none⟩ = some (.int .u64 high) ∧ U.cell? ⟨w.heap.size, 5, none⟩ = some (.int .u64 seq) from by
    have hr : U.heap[w.heap.size]? = _ := (hU.block _ (row_lt hh)).trans hh
    exact ⟨row_cell hr 0, row_cell hr 1, row_cell hr 2, row_cell hr 3, row_cell hr 4, row_cell hr 5⟩)
  have ws : IntKind.i64.wrap ((n : Int) + (m : Int)) = (n : Int) + (m : Int) := by rw [IntKind.wrap_i64]; omega
  have hfn : ¬ cap < (n : Int) + (m : Int) := by omega
  obtain ⟨c0, c1, c2, c3, c4, c5⟩ := HH.out W (Below.refl _ _)
  clear hh hn1 hm1 hn
  go_enter Try.func10, Try.ntmps10
  go_upto_region 1 with fail
  clear hW
  go_upto_region 3 with (go_at_call 23; with_reducible refine (CC.out _).mono ?_; rintro e w1 ⟨rfl, h1⟩; obtain ⟨d0, d1, d2, d3, d4, d5⟩ := HH.out _ h1; have H1 := hid h1; clear h1)
  go_upto_region 4 with (first
    | (go_at_call 24; with_reducible refine (C1.out _ (btr HB.out H1.out)).mono ?_; rintro e w2 ⟨rfl, h2⟩; have H2 := hid (btr H1.out h2); clear h2; obtain ⟨e0, e1, e2, e3, e4, e5⟩ := HH.out _ H2.out)
    | (go_at_call 24; with_reducible refine (C2.out _ (btr HB.out H2.out)).mono ?_; rintro e w3 ⟨rfl, h3⟩; have H3 := hid (btr H2.out h3); clear h3; obtain ⟨f0, f1, f2, f3, f4, f5⟩ := HH.out _ H3.out)
    | (go_at_call 25; with_reducible refine (CX.out _ (btr HB.out H3.out)).mono ?_; rintro e w4 ⟨rfl, h4⟩; have H4 := hid (btr H3.out h4); clear h4; obtain ⟨g0, g1, g2, g3, g4, g5⟩ := HH.out _ H4.out))
  clear c0 c1 c2 c3 c4 c5 d0 d1 d2 d3 d4 d5 e0 e1 e2 e3 e4 e5 f0 f1 f2 f3 f4 f5
  go_wp2_with (first
    | (go_at_call 26; with_reducible refine (C3.out _ (btr HB.out H4.out)).mono ?_; rintro e w5 ⟨rfl, h5⟩; have H5 := hid (btr H4.out h5); clear h5; obtain ⟨e0, e1, e2, e3, e4, e5⟩ := HH.out _ H5.out)
    | (go_at_call 26; with_reducible refine (C4.out _ (btr HB.out H5.out)).mono ?_; rintro e w6 ⟨rfl, h6⟩; have H6 := hid (btr H5.out h6); clear h6; obtain ⟨f0, f1, f2, f3, f4, f5⟩ := HH.out _ H6.out)
    | (go_at_call 27; with_reducible refine (CD.out _ _ (btr HB.out (btr H6.out (ball _ _))) (World.alloc_heap_new _ _)).mono ?_; rintro e w7 ⟨rfl, h7⟩; have H7 := hid (btr H6.out (btr (ball _ _) h7)); clear h7))
  go_ret
  exact ⟨rfl, btr HB.out H7.out⟩
end Go.Proofs.Ytfgcfiejkjhebaa.Sr
