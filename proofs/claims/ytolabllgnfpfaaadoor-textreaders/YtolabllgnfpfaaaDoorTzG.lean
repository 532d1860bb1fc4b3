/-
  The law's lent, kept, full.
-/
import Derived.Test.YtolabllgnfpfaaaDoorTyP
import Derived.Test.YtolabllgnfpfaaaDoorTxV
namespace Go.Proofs.YtolabllgnfpfaaaDoor
open Go.RowKit Go.Deep Go.Lib Go.Shelf Go.Sort
set_option linter.unusedVariables false

/-- what lies behind bytes that were lent. -/
def roomB : List UInt8 := (List.range 32).map (fun i => UInt8.ofNat (171 + i))
theorem room_len : roomB.length = 32 := by simp [roomB]
theorem room_at (j : Nat) (h : j < roomB.length) : (roomB[j].toNat : Int) = 171 + (j : Int) := by
  rw [room_len] at h
  simp [roomB]
  omega
theorem own_sliceC {B : Nat} {W0 w : World} {v : Value} {l r : List UInt8} (h : Own B W0 w v (l ++ r)) (hr : 0 < r.length) : ∃ g cap, v = .slice (some ⟨g, 0, none⟩) (l ++ r).length cap ∧ B ≤ g ∧ g < w.heap.size ∧ (l ++ r).length ≤ cap ∧ cap < 9223372036854775808 ∧ w.ownsRow B 5 1 (.slice (some ⟨g, 0, none⟩) l.length cap) l.length (byteCells l) := by
  rcases h.1.2 with ⟨_, hn⟩ | ⟨g, cap, cur, e, hB, hg, h5, h6, h7, h8⟩
  · rw [List.length_append] at hn; omega
  · refine ⟨g, cap, e, hB, ?_, h5, by unfold maxLen at h6; omega, ?_⟩
    · rcases Nat.lt_or_ge g w.heap.size with h' | h'
      · exact h'
      · simp [Array.getElem?_eq_none h'] at hg
    · refine ⟨by simp [byteCells], Or.inr ⟨g, cap, cur, rfl, hB, hg, ?_, h6, h7, ?_⟩⟩
      · simp at h5; omega
      · have h9 := congrArg (List.take l.length) h8
        rw [List.take_take, Nat.mul_one, show min l.length (l ++ r).length = l.length by rw [List.length_append]; omega] at h9
        rw [Nat.mul_one, h9]
        simp [byteCells]
set_option maxHeartbeats 2000000 in
set_option maxRecDepth 100000 in
/-- the law's lent. -/
theorem lent_any (l : List UInt8) (q : Option Addr) (cap : Nat) (w : World) (hl : l.length ≤ 140737488351232) (hS : Sg w q cap l) :
    Calls Tryd.prog 7 #[.slice q l.length cap] w fun e w' => ∃ g c, e = .returned (.tuple #[.slice (some ⟨g, 0, none⟩) l.length c, .slice (some ⟨g, 0, none⟩) (l.length + 32) c]) ∧ Own w.heap.size w w' (.slice (some ⟨g, 0, none⟩) (l.length + 32) c) (l ++ roomB) := by
  obtain ⟨wm, hmk, hOm, hKm⟩ := own_make (l.length + 32) ((l.length : Int) + 32) (by omega) (by omega) (Below.refl w.heap.size w) (Nat.le_refl _)
  have OM := hid hOm
  have SM := hid (hS.on hOm.2.1)
  clear hOm hKm hS
  go_enter Tryd.func7, Tryd.ntmps7
  go_wp2_with (first | (at_builtin; refine own_sliceQ _ (by rfl) (.tmp 10) (.tmp 11) (by rfl) w.heap.size _ [] (by rfl) w OM.out q _ cap l rfl (by rfl) SM.out (by simp; omega) ?_; intro v1 w1 hO1; have HO1 := hid (show Own w.heap.size w w1 v1 (l ++ roomB.take 0) by simpa using hO1); clear hO1))
  go_loopw [4, 5] (fun sv iv wr => ∃ (j : Nat) (v : Value), j ≤ 32 ∧ sv = v ∧ iv = .int .i64 j ∧ Hid (Own w.heap.size w wr v (l ++ roomB.take j))) (fun _ iv _ => 32 - (RowKit.intOf iv).toNat)
  case atStart => exact ⟨0, _, by omega, rfl, rfl, HO1⟩
  case round =>
    obtain ⟨j, v, hj, rfl, rfl, HJ⟩ := hrel
    by_cases hlt : j < 32
    · have j1 : (j : Int) < 32 := by omega
      have hwr : IntKind.u8.wrap (171 + (j : Int)) = 171 + (j : Int) := by rw [IntKind.wrap_u8]; omega
      have hrl := room_len
      have HRA := hid (room_at j (by omega))
      have HTK := hid (show roomB.take (j + 1) = roomB.take j ++ [roomB[j]'(by omega)] from List.take_succ_eq_append_getElem (by omega))
      obtain ⟨c, hc⟩ : ∃ c, roomB[j]'(by omega) = c := ⟨_, rfl⟩
      rw [hc] at HRA HTK
      clear hc hrl
      go_wp2_with (first | (at_builtin; refine own_byte (by rfl) (.tmp 17) (.tmp 21) (by rfl) w.heap.size _ (l ++ roomB.take j) (by rfl) w wr c (171 + (j : Int)) HRA.out.symm HJ.out (by rfl) (by simp; omega) ?_; intro v2 w2 hO2 _; have HO2 := hid (show Own w.heap.size w w2 v2 (l ++ roomB.take (j + 1)) by rw [HTK.out, ← List.append_assoc]; exact hO2); clear hO2))
      go_roundw
      case rel => exact ⟨j + 1, _, by omega, rfl, by go_num, HO2⟩
      case measure => simp [RowKit.intOf]; omega
    · obtain rfl : j = 32 := by omega
      have HE := hid (show Own w.heap.size w wr _ (l ++ roomB) by have h := HJ.out; rw [List.take_of_length_le (by rw [room_len]; exact Nat.le_refl _)] at h; exact h)
      obtain ⟨g, c, rfl, _, _, hc, _, _⟩ := own_sliceC HE.out (by rw [room_len]; omega)
      rw [List.length_append, room_len] at HE hc ⊢
      have k1 : (0 : Int) ≤ (l.length : Int) := by omega
      have k2 : (l.length : Int) ≤ (c : Int) := by omega
      clear HJ
      go_wp2
      go_ret2
      exact ⟨g, c, rfl, HE.out⟩
theorem news_seven (w : World) : ∀ (j : Nat) (u : Value), ([.int .u8 7] : List Value)[j]? = some u → (w.alloc (.cells #[.int .u8 7] 5)).cell? ((⟨w.heap.size, 0, none⟩ : Addr).add j) = some u := by
  intro j u hj
  match j, hj with
  | 0, hj => simp at hj; subst hj; simp [Addr.add]
  | (j + 1), hj => simp at hj
theorem one_seven : ∀ u ∈ ([.int .u8 7] : List Value), u.oneCell' = true := by
  intro u hu; simp at hu; subst hu; rfl

set_option maxHeartbeats 2000000 in
set_option maxRecDepth 100000 in
/-- the law's full. -/
theorem full7_any (v : Value) (n B : Nat) (xs : List Value) (w : World) (hn : n ≤ 140737488351232) (hB : B ≤ w.heap.size) (hown : w.ownsRow B 5 1 v n xs) :
    Calls Tryd.prog 10 #[v, .int .u8 7] w fun e w' => e = .returned (.tuple #[]) ∧ w.grownBy w' v.ownBlock := by
  obtain ⟨q, cap, hv⟩ : ∃ q cap, v = .slice q n cap := by
    rcases hown.2 with ⟨h, h0⟩ | ⟨g, c, cur, h, _⟩
    · exact ⟨none, 0, by rw [h, h0]⟩
    · exact ⟨_, c, h⟩
  subst hv
  have HO := hid hown
  obtain ⟨i0, hi, hz0, hz1, hz2⟩ := info_parts info5all
  have HI := hid hi
  have HZ0 := hid hz0
  have HZ1 := hid hz1
  have HZ2 := hid hz2
  clear hown hi hz0 hz1 hz2
  go_enter Tryd.func10, Tryd.ntmps10
  go_wp2_with fail
  go_loopw [4] (fun iv wr => ∃ k : Nat, k ≤ n ∧ iv = .int .i64 k ∧ Hid (∃ xs, wr.ownsRow B 5 1 (.slice q n cap) n xs) ∧ Hid (w.grownBy wr (Value.slice q n cap).ownBlock)) (fun iv _ => n - (RowKit.intOf iv).toNat)
  case atStart => exact ⟨0, Nat.zero_le _, rfl, hid ⟨xs, HO.out⟩, hid (grown_refl _ _)⟩
  case round =>
    obtain ⟨k, hk, rfl, HX, HG⟩ := hrel
    by_cases hlt : k < n
    · obtain ⟨ys, hy⟩ := HX.out
      obtain ⟨g, c, e, hBg, hgl⟩ := hy.form (by omega)
      obtain ⟨rfl, rfl⟩ : q = some ⟨g, 0, none⟩ ∧ cap = c := by simpa using e
      have hlen := hy.1
      have hcell := hy.cellAt k (by omega)
      rw [List.getElem?_eq_getElem (by omega)] at hcell
      have hfr := hy.frozenAt k
      obtain ⟨s1, s2⟩ := hy.stored k (.int .u8 7)
      have S1 := hid s1
      have S2 := hid s2
      have i0 : (0 : Int) ≤ (k : Int) := by omega
      have i1 : (k : Int) < (n : Int) := by omega
      obtain ⟨u, hu⟩ : ∃ u, ys[k]'(by omega) = u := ⟨_, rfl⟩
      rw [hu] at hcell
      clear hy hlen s1 s2 hu e
      go_wp2
      go_roundw
      case rel => exact ⟨k + 1, by omega, by go_num, hid ⟨_, S1.out⟩, hid (grown_step HG.out S2.out (Or.inl rfl))⟩
      case measure => simp [RowKit.intOf]; omega
    · go_wp2_with fail
      go_loopw [0, 5] (fun bv iv wr => ∃ j : Nat, j ≤ 90 ∧ iv = .int .i64 j ∧ Hid (∃ xs, wr.ownsRow B 5 1 bv (n + j) xs) ∧ Hid (w.grownBy wr (Value.slice q n cap).ownBlock) ∧ Hid (At w (Value.slice q n cap).ownBlock bv.ownBlock)) (fun _ iv _ => 90 - (RowKit.intOf iv).toNat)
      case atStart => exact ⟨0, by omega, rfl, HX, HG, hid (Or.inl rfl)⟩
      case round =>
        obtain ⟨j, hj, rfl, HX2, HG2, HA2⟩ := hrel
        by_cases hjl : j < 90
        · obtain ⟨ys, hy⟩ := HX2.out
          have HY := hid (own_alloc hy (.cells #[.int .u8 7] 5))
          have j0 : (0 : Int) ≤ (j : Int) := by omega
          have j1 : (j : Int) < 90 := by omega
          have HBw := hid (Nat.le_trans hB HG2.out.size)
          clear hy
          go_wp2_with (at_builtin; refine wpList_append_lies _ (by rfl) (.tmp 20) (.tmp 22) 26 (by rfl) B 5 i0 (.int .u8 0) 1 1 Tryd.underlying26 HI.out HZ0.out HZ1.out HZ2.out rfl (by decide) _ (n + j) ys (by rfl) HY.out ⟨wr.heap.size, 0, none⟩ 1 1 [.int .u8 7] (by rfl) rfl (news_seven wr) one_seven (by decide) (by unfold maxLen; omega) (by omega) (by have := HBw.out; simp; omega) (wr.heap.size + 1) (by simp) ?_; intro g c w1 hown1 hgrow hat hglt; have O1 := hid hown1; have G1 := hid hgrow; have A1 := hid hat; clear hown1 hgrow hat hglt)
          go_roundw
          case rel =>
            refine ⟨j + 1, by omega, by go_num, hid ⟨_, by rw [← Nat.add_assoc]; exact O1.out⟩, hid (grown_step (grown_step HG2.out (World.grownBy_alloc _ _ _) (Or.inl rfl)) G1.out HA2.out), hid ?_⟩
            rcases A1.out with h | h
            · rw [show (Value.slice (some ⟨g, 0, none⟩) (n + j + 1) c).ownBlock = some g from rfl, ← h]; exact HA2.out
            · exact Or.inr ⟨g, rfl, by have := HG2.out.size; omega⟩
          case measure => simp [RowKit.intOf]; omega
        · go_wp2
          go_end0
          exact ⟨rfl, HG2.out⟩
set_option maxHeartbeats 2000000 in
set_option maxRecDepth 100000 in
/-- the law's kept, of what was kept. -/
theorem kept_any (l : List UInt8) (g c : Nat) (q : Option Addr) (cap : Nat) (w : World) (hl : l.length ≤ 140737488351232) (hA : Sb w (some ⟨g, 0, none⟩) (l ++ roomB)) (hB : Sb w q l) :
    Calls Tryd.prog 9 #[.slice (some ⟨g, 0, none⟩) (l.length + 32) c, .slice q l.length cap] w fun e w' => e = .returned (.bool true) ∧ Below w.heap.size w w' := by
  have HA := hid hA
  have HB := hid hB
  clear hA hB
  have hlen : (l ++ roomB).length = l.length + 32 := by rw [List.length_append, room_len]
  have HL := hid hlen
  clear hlen
  go_enter Tryd.func9, Tryd.ntmps9
  go_wp2_with fail
  go_loopw [5] (fun iv wr => ∃ k : Nat, k ≤ l.length + 32 ∧ iv = .int .i64 k ∧ Hid (Below w.heap.size w wr)) (fun iv _ => l.length + 32 - (RowKit.intOf iv).toNat)
  case atStart => exact ⟨0, by omega, rfl, hid (Below.refl _ _)⟩
  case round =>
    obtain ⟨k, hk, rfl, HW⟩ := hrel
    by_cases hlt : k < l.length + 32
    · have k1 : (k : Int) < (l.length : Int) + 32 := by omega
      have k0 : (0 : Int) ≤ (k : Int) := by omega
      have ha := (HA.out.on HW.out).at k (by rw [HL.out]; omega)
      rw [Nat.zero_add] at ha
      by_cases hkl : k < l.length
      · rw [List.getElem_append_left hkl] at ha
        obtain ⟨b, o, rfl, h0⟩ := (HB.out.on HW.out) k hkl
        obtain ⟨x, hx⟩ : ∃ x, l[k] = x := ⟨_, rfl⟩
        rw [hx] at ha h0
        have k2 : (k : Int) < (l.length : Int) := by omega
        have k3 : ¬ (l.length : Int) ≤ (k : Int) := by omega
        have k4 : ¬ l.length ≤ k := by omega
        clear hx
        go_wp2
        go_quiet (fail)
        go_wp2
        go_roundw
        case rel => exact ⟨k + 1, by omega, by go_num, hid (HW.out.trans ⟨rfl, rfl, rfl, Nat.le_refl _, fun _ _ => rfl⟩)⟩
        case measure => simp [RowKit.intOf]; omega
      · rw [List.getElem_append_right (by omega), room_at] at ha
        have e1 : ((k - l.length : Nat) : Int) = (k : Int) - (l.length : Int) := by omega
        rw [e1] at ha
        have hwr : IntKind.u8.wrap (171 + (k : Int) - (l.length : Int)) = 171 + ((k : Int) - (l.length : Int)) := by rw [IntKind.wrap_u8]; omega
        have k2 : ¬ (k : Int) < (l.length : Int) := by omega
        have k3 : (l.length : Int) ≤ (k : Int) := by omega
        have k4 : l.length ≤ k := by omega
        clear e1
        go_wp2
        go_quiet (fail)
        go_wp2
        go_roundw
        case rel => exact ⟨k + 1, by omega, by go_num, hid (HW.out.trans ⟨rfl, rfl, rfl, Nat.le_refl _, fun _ _ => rfl⟩)⟩
        case measure => simp [RowKit.intOf]; omega
    · have k1 : ¬ (k : Int) < (l.length : Int) + 32 := by omega
      go_wp2
      go_ret
      exact ⟨rfl, HW.out⟩
end Go.Proofs.YtolabllgnfpfaaaDoor
