/-
  distinct: the loops.
-/
import Derived.Test.YtjpkodllemoniaaDoorStN
namespace Go.Proofs.YtjpkodllemoniaaDoor.Sr
open Go.RowKit Go.Deep
set_option linter.unusedVariables false
set_option linter.unusedSimpArgs false
set_option maxHeartbeats 8000000
set_option maxRecDepth 100000
/-- what is gathered of the first lists. -/
def gth (b s : List Rt) : Nat → List Int
  | 0 => []
  | 1 => b.map Rt.id
  | _ => b.map Rt.id ++ s.map Rt.id
theorem own_blk {base : Nat} {w : World} {e : TypeId} {size n : Nat} {v : Value} {xs : List Value} (h : w.ownsRow base e size v n xs) {j : Nat} (hj : v.ownBlock = some j) : base ≤ j := by
  obtain ⟨h1, ⟨e1, _⟩ | ⟨g, c, cur, h2, r1, r⟩⟩ := h
  · rw [e1] at hj; cases hj
  · rw [h2] at hj; cases hj; exact r1
theorem distinct_all (q : Nat) (pb ps : Option Addr) (cb cs : Nat) (b s : List Rt) (w : World) (hq : w.heap[q]? = some (.cells #[.slice pb b.length cb, .slice ps s.length cs] 24 (0, 0))) (hb : Rz w pb b) (hs : Rz w ps s) (hn : b.length + s.length ≤ 4096) :
    Calls Tryd.prog 33 #[.slice (some ⟨q, 0, none⟩) 2 2] w fun e w' => e = .returned (.bool (decide (b.map Rt.id ++ s.map Rt.id).Nodup)) ∧ Below w.heap.size w w' := by
  have HQ := hid hq
  have HBZ := hid hb
  have HSZ := hid hs
  obtain ⟨DD, hDD⟩ : ∃ d, decide (b.map Rt.id ++ s.map Rt.id).Nodup = d := ⟨_, rfl⟩
  have HDD := hid hDD
  rw [hDD]
  clear hDD
  have HN := hid hn
  clear hq hb hs hn
  go_enter Tryd.func33, Tryd.ntmps33
  go_upto_region 3 with fail
  go_loopw [3, 10] (fun iv rv wr => ∃ (r : Nat) (pf : Option Addr) (k cf : Nat), rv = .int .i64 r ∧ iv = .slice pf k cf ∧ r ≤ 2 ∧ Hid ((gth b s r).length = k) ∧ Hid (wr.ownsRow w.heap.size 25 1 (.slice pf k cf) k (ivs (gth b s r))) ∧ Hid (Below w.heap.size w wr)) (fun _ rv _ => 3 - (intOf rv).toNat)
  case atStart => exact ⟨0, none, 0, 0, rfl, rfl, by omega, hid rfl, hid ⟨rfl, .inl ⟨rfl, rfl⟩⟩, hid (Below.refl _ _)⟩
  case round =>
    obtain ⟨r, pf, k, cf, rfl, rfl, r2, HK, HO, HB⟩ := hrel
    by_cases hr : r < 2
    · have ir : (r : Int) < 2 := by omega
      have ir0 : (0 : Int) ≤ (r : Int) := by omega
      have wr1 : IntKind.i64.wrap ((r : Int) + 1) = ((r + 1 : Nat) : Int) := by rw [IntKind.wrap_i64]; omega
      obtain ⟨p, l, c, hp⟩ : ∃ p l c, wr.cell? ⟨q, r, none⟩ = some (.slice p (l : List Rt).length c) ∧ Rz w p l ∧ l.length ≤ 4096 ∧ gth b s (r + 1) = gth b s r ++ l.map Rt.id ∧ (gth b s r).length + l.length ≤ 4096 := by
        have hQ := HB.out.block q (row_lt HQ.out)
        have hQ' := hQ.trans HQ.out
        have := HN.out
        rcases (show r = 0 ∨ r = 1 by omega) with rfl | rfl
        · exact ⟨pb, b, cb, row_cell hQ' 0, HBZ.out, by omega, by simp [gth], by simp [gth]; omega⟩
        · exact ⟨ps, s, cs, row_cell hQ' 1, HSZ.out, by omega, by simp [gth], by simp [gth]; omega⟩
      obtain ⟨hc, hz, hl, hg, hlen⟩ := hp
      have HZ := hid hz
      have HG := hid hg
      have HLN := hid hlen
      obtain ⟨n, hnl⟩ : ∃ n, l.length = n := ⟨_, rfl⟩
      have HNL := hid hnl
      rw [hnl] at hc hl
      clear hz hg hlen hnl
      obtain ⟨Y, rfl⟩ : ∃ Y, Y = wr := ⟨_, rfl⟩
      go_upto_region 6 with fail
      clear hc
      go_loopw [3, 16] (fun iv jv wx => ∃ (i : Nat) (pf : Option Addr) (k cf : Nat), jv = .int .i64 i ∧ iv = .slice pf k cf ∧ i ≤ n ∧ k ≤ 4096 ∧ Hid ((gth b s r ++ (l.take i).map Rt.id).length = k) ∧ Hid (wx.ownsRow w.heap.size 25 1 (.slice pf k cf) k (ivs (gth b s r ++ (l.take i).map Rt.id))) ∧ Hid (Below w.heap.size w wx)) (fun _ jv _ => n - (intOf jv).toNat)
      case atStart => exact ⟨0, pf, k, cf, rfl, rfl, by omega, by have := HLN.out; have := HK.out; omega, hid (by simp [HK.out]), hid (by simpa using HO.out), HB⟩
      case round =>
        clear HO HK
        obtain ⟨i, pf, k, cf, rfl, rfl, i1, k4, HK, HO, HBW⟩ := hrel
        by_cases hi : i < n
        · have ii : (i : Int) < (n : Int) := by omega
          have ii0 : (0 : Int) ≤ (i : Int) := by omega
          have wi : IntKind.i64.wrap ((i : Int) + 1) = ((i + 1 : Nat) : Int) := by rw [IntKind.wrap_i64]; omega
          obtain ⟨g, hpg, hgl, a0, a1, a2, a3, a4, a5, a6⟩ := (HZ.out.on HBW.out) i (by rw [HNL.out]; exact hi)
          subst hpg
          obtain ⟨x, hx⟩ : ∃ x, l[i]'(by rw [HNL.out]; exact hi) = x := ⟨_, rfl⟩
          have HX := hid hx
          rw [hx] at a0 a1 a2 a3 a4 a5 a6
          clear hx
          go_upto_region 8 with fail
          obtain ⟨R, hR⟩ : ∃ R, wr.heap.size = R := ⟨_, rfl⟩
          obtain ⟨X, hX⟩ : ∃ X, wr.alloc (.cells #[.int .u64 x.id, .int .u32 x.mb, .int .i64 x.ty, .int .i64 x.pr, .int .u64 x.vi, .int .u64 x.hi, .int .u64 x.pk] 46) = X := ⟨_, rfl⟩
          have BX := hid (show Below wr.heap.size wr X from by rw [← hX]; exact ball _ _)
          have hXR : X.heap[R]? = some (.cells #[.int .u64 x.id, .int .u32 x.mb, .int .i64 x.ty, .int .i64 x.pr, .int .u64 x.vi, .int .u64 x.hi, .int .u64 x.pk] 46 (0, 0)) := by rw [← hX, ← hR]; exact World.alloc_heap_new _ _
          rw [hX, hR]
          have c0 : X.cell? ⟨R, 0, none⟩ = some (.int .u64 x.id) := row_cell hXR 0
          have HOX := hid (own_on (own_on HO.out BX.out) (ball X (.cells #[.int .u64 x.id] 25)))
          have HCX := hid (show (X.alloc (.cells #[.int .u64 x.id] 25)).cell? ⟨X.heap.size, 0, none⟩ = some (.int .u64 x.id) from row_cell (World.alloc_heap_new X (.cells #[.int .u64 x.id] 25)) 0)
          have hbs : w.heap.size ≤ (X.alloc (.cells #[.int .u64 x.id] 25)).heap.size := Nat.le_trans HBW.out.size (Nat.le_trans BX.out.size (ball X _).size)
          clear hX hR hXR a0 a1 a2 a3 a4 a5 a6
          go_wp2_with (at_builtin; refine app_one (by rfl) (.tmp 20) (.tmp 23) (by rfl) w.heap.size _ k _ (by rfl) HOX.out X.heap.size x.id (by rfl) HCX.out (by omega) hbs ?_; intro v' w4 hown hgrow; obtain ⟨p9, q9, rfl⟩ := own_form hown; have HO4 := hid hown; have HG4 := hid hgrow; clear hown hgrow)
          have HW4 := hid (show Below w.heap.size w w4 from (btr HBW.out (btr BX.out (ball X (.cells #[.int .u64 x.id] 25)))).grown HG4.out hbs (fun j hj => own_blk HO.out hj))
          have hts : l.take (i + 1) = l.take i ++ [x] := by rw [← HX.out]; exact (List.take_append_getElem (by rw [HNL.out]; exact hi)).symm
          go_roundw
          case rel =>
            refine ⟨i + 1, p9, k + 1, q9, by go_num, rfl, by omega, by have h1 := HK.out; have h2 := HLN.out; rw [List.length_append, List.length_map, List.length_take] at h1; have := HNL.out; omega, hid ?_, hid ?_, HW4⟩
            · have h1 := HK.out
              rw [hts, List.map_append, ← List.append_assoc, List.length_append, h1]
              rfl
            · have h1 := HO4.out
              rw [hts, List.map_append, ← List.append_assoc]
              unfold ivs at h1 ⊢
              rw [List.map_append]
              exact h1
          case measure => first | (simp [intOf]; done) | (simp [intOf]; omega)
        · have ii : ¬ (i : Int) < (n : Int) := by omega
          have di : decide ((i : Int) < (n : Int)) = false := decide_eq_false ii
          have hin : i = n := by omega
          have htk : l.take i = l := List.take_of_length_le (by rw [HNL.out]; omega)
          have HK2 := hid (show (gth b s (r + 1)).length = k from by rw [HG.out, ← HK.out, htk])
          have HO2 := hid (show wr.ownsRow w.heap.size 25 1 (.slice pf k cf) k (ivs (gth b s (r + 1))) from by rw [HG.out]; have := HO.out; rw [htk] at this; exact this)
          clear htk hin
          go_wp2
          go_roundw
          case rel => exact ⟨r + 1, pf, k, cf, by go_num, rfl, by omega, HK2, HO2, HBW⟩
          case measure => first | (simp [intOf]; done) | (simp [intOf]; omega)
    · have ir : ¬ (r : Int) < 2 := by omega
      have dr : decide ((r : Int) < 2) = false := decide_eq_false ir
      have CSC := hid (sorted_compact2 (base := w.heap.size) (w := wr) (p := pf) (k := k) (c := cf) HK.out (by have h1 := HK.out; have h2 := HN.out; rw [show r = 2 by omega] at h1; simp [gth] at h1; omega) HO.out (fun g hg => own_blk HO.out (by rw [hg]; rfl)))
      go_upto_region 12 with (go_at_call 51; with_reducible refine (CSC.out).mono ?_; rintro e v1 ⟨rfl, H1⟩)
      have C2 := hid H1.out.2
      have hdd : decide (gth b s r).Nodup = DD := by rw [← HDD.out, show r = 2 by omega]; rfl
      rw [hdd] at C2
      clear hdd
      go_wp2_with (go_at_call 52; with_reducible refine (C2.out).mono ?_; rintro e v2 ⟨kk, cc, rfl, HKK, H2⟩; have hkk := HKK.out)
      go_ret
      exact ⟨by rfl, HB.out.trans H2.out⟩
end Go.Proofs.YtjpkodllemoniaaDoor.Sr
