/-
  Where an order stands; how much is shown ahead of it, by the program.
-/
import Derived.Test.YtopfgoifmcjcaaaSnB
import Derived.Deep.DrawnRows
import Derived.RangeFuncRecord
import Derived.Deep.Cut
import Derived.Deep.CutBlock
import Derived.Deep.RegionLaw
import Derived.Laws.NewBlocks
import Derived.Laws.MakeOwn
namespace Go.Proofs.Ytopfgoifmcjcaaa
open Go.RowKit Go.Deep
set_option linter.unusedVariables false
set_option linter.unusedSimpArgs false
set_option maxHeartbeats 4000000
set_option maxRecDepth 100000
attribute [local go_sem ↓] Go.wp_at_zero Go.wp_at_succ
/-- where the order of an ID stands, or -1. -/
def fni (id : Int) : List Or → Int
  | [] => -1
  | x :: l => if x.id = id then 0 else if fni id l = -1 then -1 else fni id l + 1
theorem fni_ge (id : Int) : ∀ l : List Or, -1 ≤ fni id l ∧ fni id l < l.length := by
  intro l
  induction l with
  | nil => simp [fni]
  | cons x l ih => unfold fni; simp only [List.length_cons]; split; omega; split <;> omega
theorem fni_none {id : Int} : ∀ {l : List Or}, (∀ j (h : j < l.length), (l[j]).id ≠ id) → fni id l = -1
  | [], _ => rfl
  | x :: l, h => by
    unfold fni
    rw [if_neg (by have := h 0 (by simp); simpa using this), if_pos (fni_none (fun j hj => by have := h (j + 1) (by simpa using hj); simpa using this))]
theorem fni_at {id : Int} : ∀ {l : List Or} {i : Nat} (hi : i < l.length), (∀ j (h : j < l.length), j < i → (l[j]).id ≠ id) → (l[i]).id = id → fni id l = i
  | x :: l, 0, hi, _, h => by unfold fni; rw [if_pos (by simpa using h)]; rfl
  | x :: l, i + 1, hi, ha, h => by
    unfold fni
    have e := fni_at (l := l) (i := i) (by simpa using hi) (fun j hj hji => by have := ha (j + 1) (by simpa using hj) (by omega); simpa using this) (by simpa using h)
    rw [if_neg (by have := ha 0 (by simp) (by omega); simpa using this), e, if_neg (by omega)]
    omega
theorem find1_any (X : Nat) (o : Or) (id : Int) (w : World) (hX : w.cell? ⟨X, 0, none⟩ = some (.int .u64 id)) (hXs : X < w.heap.size) :
    Calls Try.prog 10 #[.agg (orow o), .pointer (some ⟨X, 0, none⟩)] w fun e w' => e = .returned (.bool (o.id == id)) ∧ Below w.heap.size w w' := by
  have hX' : X ≠ w.heap.size := by omega
  unfold orow
  go_enter Try.func10, Try.ntmps10
  go_wp2
  go_ret
  exact ⟨rfl, ball _ _⟩
theorem indexFunc_any (q : Option Addr) (c X : Nat) (os : List Or) (id : Int) (w : World) (h : Osz w q os) (hX : w.cell? ⟨X, 0, none⟩ = some (.int .u64 id)) (hXs : X < w.heap.size) (hn : os.length < 9223372036854775808) :
    Calls Try.prog 9 #[.slice q os.length c, .func (.func 10) #[] #[.pointer (some ⟨X, 0, none⟩)]] w fun e w' => e = .returned (.int .i64 (fni id os)) ∧ Below w.heap.size w w' := by
  obtain ⟨n, hnn⟩ : ∃ n, os.length = n := ⟨_, rfl⟩
  have HN := hid hnn
  have H := hid h
  have HX := hid hX
  rw [hnn] at hn ⊢
  clear hnn h hX
  go_enter Try.func9, Try.ntmps9
  go_wp2_with fail
  go_loopw [8] (fun iv wr => ∃ i : Nat, i ≤ n ∧ iv = .int .i64 i ∧ Hid (∀ j (hj : j < os.length), j < i → (os[j]).id ≠ id) ∧ Hid (Below w.heap.size w wr)) (fun iv _ => n - (intOf iv).toNat)
  case atStart => exact ⟨0, Nat.zero_le _, rfl, hid (fun j hj h => by omega), hid (Below.refl _ _)⟩
  case round =>
    obtain ⟨i, hin, rfl, HJ, HB⟩ := hrel
    by_cases hlt : i < n
    · have hi : i < os.length := by rw [HN.out]; exact hlt
      obtain ⟨g, o, hp, a0, a1, a2, a3, a4, a5, a6⟩ := osz_cells H.out HB.out hi
      subst hp
      have C1 := hid (find1_any X os[i] id wr ((HB.out.cell hXs).trans HX.out) (Nat.lt_of_lt_of_le hXs HB.out.size))
      obtain ⟨z, hz⟩ : ∃ z, os[i] = z := ⟨_, rfl⟩
      rw [hz] at a0 a1 a2 a3 a4 a5 a6 C1
      have HZ := hid hz
      unfold orow at C1
      have i0' : (0 : Int) ≤ (i : Int) := by omega
      have i1 : (i : Int) < (n : Int) := by omega
      clear hz
      by_cases he : z.id = id
      · have h1 : (z.id == id) = true := by simpa using he
        rw [h1] at C1
        have HE := hid he
        clear he h1
        go_wp2_with (go_at_call 10; with_reducible refine (C1.out).mono ?_; rintro e w1 ⟨rfl, hb1⟩; have HB1 := hid hb1; clear hb1)
        go_ret
        refine ⟨?_, btr HB.out HB1.out⟩
        rw [fni_at hi HJ.out (by rw [HZ.out]; exact HE.out)]
        rfl
      · have h1 : (z.id == id) = false := by simpa using he
        rw [h1] at C1
        have HE := hid he
        clear he h1
        go_wp2_with (go_at_call 10; with_reducible refine (C1.out).mono ?_; rintro e w1 ⟨rfl, hb1⟩; have HB1 := hid hb1; clear hb1)
        go_roundw
        case rel =>
          refine ⟨i + 1, by omega, by go_num, hid (fun j hj hl => ?_), hid (btr HB.out HB1.out)⟩
          by_cases hji : j = i
          · subst hji; rw [HZ.out]; exact HE.out
          · exact HJ.out j hj (by omega)
        case measure => simp [intOf]; omega
    · obtain rfl : i = n := by omega
      go_wp2
      go_ret
      refine ⟨?_, HB.out⟩
      rw [fni_none (fun j hj => HJ.out j hj (by rw [← HN.out]; exact hj))]
      rfl
/-- how much is shown ahead of an order, on a side. -/
def ah1 (id : Int) (os : List Or) : Int := if h : (fni id os).toNat < os.length then shn (os[(fni id os).toNat]).pr 0 (os.take (fni id os).toNat) else 0
/-- how much is shown ahead of an order, and whether there is one. -/
def ah (id : Int) (os1 os2 : List Or) : Int × Bool := if 0 ≤ fni id os1 then (ah1 id os1, true) else if 0 ≤ fni id os2 then (ah1 id os2, true) else (0, false)
theorem ah1_eq {id : Int} {os : List Or} {kk : Nat} (h : fni id os = kk) (hk : kk < os.length) : ah1 id os = shn (os[kk]).pr 0 (os.take kk) := by
  have e : (fni id os).toNat = kk := by omega
  unfold ah1
  rw [dif_pos (by rw [e]; exact hk)]
  simp only [e]
theorem Osz.take {w : World} {q : Option Addr} {os : List Or} (h : Osz w q os) (k : Nat) : Osz w q (os.take k) := fun i hi => by
  have hi' : i < os.length := by simp at hi; omega
  have e : (os.take k)[i] = os[i] := List.getElem_take
  rw [e]
  exact h i hi'
theorem ahead_any (cap meet high seq id : Int) (q1 q2 : Option Addr) (c1 c2 : Nat) (os1 os2 : List Or) (w : World) (h1 : Osz w q1 os1) (h2 : Osz w q2 os2) (hn1 : os1.length < 9223372036854775808) (hn2 : os2.length < 9223372036854775808) (hc1 : os1.length ≤ c1) (hc2 : os2.length ≤ c2) (hd1 : c1 < 9223372036854775808) (hd2 : c2 < 9223372036854775808) :
    Calls Try.prog 4 #[.agg #[.int .i64 cap, .int .i64 meet, .slice q1 os1.length c1, .slice q2 os2.length c2, .int .u64 high, .int .u64 seq], .int .u64 id] w fun e w' => e = .returned (.tuple #[.int .u64 (ah id os1 os2).1, .bool (ah id os1 os2).2]) ∧ Below w.heap.size w w' := by
  obtain ⟨n1, e1⟩ : ∃ n, os1.length = n := ⟨_, rfl⟩
  obtain ⟨n2, e2⟩ : ∃ n, os2.length = n := ⟨_, rfl⟩
  obtain ⟨R, hR⟩ : ∃ R, w.heap.size = R := ⟨_, rfl⟩
  obtain ⟨U0, hU0⟩ : ∃ U, w.alloc (.cells #[.int .i64 cap, .int .i64 meet, .slice q1 os1.length c1, .slice q2 os2.length c2, .int .u64 high, .int .u64 seq] 27) = U := ⟨_, rfl⟩
  obtain ⟨U1, hU1⟩ : ∃ U, U0.alloc (.cells #[.int .u64 id] 25) = U := ⟨_, rfl⟩
  obtain ⟨W, hW⟩ : ∃ U, U1.alloc (.cells #[.slice q1 os1.length c1, .slice q2 os2.length c2] 24) = U := ⟨_, rfl⟩
  have s0 : U0.heap.size = R + 1 := by rw [← hU0, ← hR]; simp
  have s1 : U1.heap.size = R + 2 := by rw [← hU1]; simp [s0]
  have s2 : W.heap.size = R + 3 := by rw [← hW]; simp [s1]
  have hbW : Below w.heap.size w W := by rw [← hW, ← hU1, ← hU0]; exact btr (btr (ball _ _) (ball _ _)) (ball _ _)
  have hX : W.heap[R + 1]? = some (.cells #[.int .u64 id] 25 (0, 0)) := by
    rw [← hW]; exact row_on (by rw [← hU1, ← s0]; exact World.alloc_heap_new _ _) (ball _ _)
  have hY : W.heap[R + 2]? = some (.cells #[.slice q1 os1.length c1, .slice q2 os2.length c2] 24 (0, 0)) := by
    rw [← hW, ← s1]; exact World.alloc_heap_new _ _
  have HU0 := hid hU0
  have HU1 := hid hU1
  have HW := hid hW
  have HRR := hid hR
  have HBW := hid hbW
  have H1 := hid (h1.on hbW)
  have H2 := hid (h2.on hbW)
  have hB : U1.heap[R]? = some (.cells #[.int .i64 cap, .int .i64 meet, .slice q1 os1.length c1, .slice q2 os2.length c2, .int .u64 high, .int .u64 seq] 27 (0, 0)) := by
    rw [← hU1]; exact row_on (by rw [← hU0, ← hR]; exact World.alloc_heap_new _ _) (ball _ _)
  have HB := hid hB
  have HX := hid hX
  have HY := hid hY
  have HS0 := hid s0
  have HS1 := hid s1
  have hXs : R + 1 < W.heap.size := by omega
  have HN1 := hid e1
  have HN2 := hid e2
  rw [e1] at HU0 HW HY HB hn1 hc1 ⊢
  rw [e2] at HU0 HW HY HB hn2 hc2 ⊢
  clear e1 e2 hR hU0 hU1 hW s0 s1 s2 hbW hX hY hB h1 h2
  go_enter Try.func4, Try.ntmps4
  go_upto_region 1 with fail
  rw [HU0.out, HU1.out, HRR.out]
  have hB := HB.out
  have b2 := row_cell hB 2
  have b3 := row_cell hB 3
  simp only [List.getElem?_toArray, List.getElem?_cons_succ, List.getElem?_cons_zero] at b2 b3
  clear hB
  go_wp2_with fail
  rw [HW.out, HS1.out]
  clear b2 b3
  go_loopw [15] (fun iv wr => ∃ i : Nat, i ≤ 2 ∧ iv = .int .i64 i ∧ Hid ((1 ≤ i → fni id os1 = -1) ∧ (2 ≤ i → fni id os2 = -1)) ∧ Hid (Below W.heap.size W wr)) (fun iv _ => 2 - (intOf iv).toNat)
  case atStart => exact ⟨0, Nat.zero_le _, rfl, hid ⟨fun h => by omega, fun h => by omega⟩, hid (Below.refl _ _)⟩
  case round =>
    obtain ⟨i, hin, rfl, HF, HBR⟩ := hrel
    have hxr := row_cell (row_on HX.out HBR.out) 0
    have hyr := row_on HY.out HBR.out
    have y0 := row_cell hyr 0
    have y1 := row_cell hyr 1
    simp only [List.getElem?_toArray, List.getElem?_cons_succ, List.getElem?_cons_zero] at hxr y0 y1
    have hXr : R + 1 < wr.heap.size := Nat.lt_of_lt_of_le hXs HBR.out.size
    clear hyr
    obtain rfl | rfl | rfl : i = 0 ∨ i = 1 ∨ i = 2 := by omega
    · have CI := hid (indexFunc_any q1 c1 (R + 1) os1 id wr (H1.out.on HBR.out) hxr hXr (by rw [HN1.out]; exact hn1))
      rw [HN1.out] at CI
      have hge := fni_ge id os1
      rw [HN1.out] at hge
      by_cases hat : 0 ≤ fni id os1
      · obtain ⟨kk, hkk⟩ : ∃ kk : Nat, fni id os1 = (kk : Int) := ⟨(fni id os1).toNat, by omega⟩
        have hkn : kk < n1 := by omega
        have hkl : kk < os1.length := by rw [HN1.out]; exact hkn
        rw [hkk] at CI
        have HKK := hid hkk
        obtain ⟨g, o, hp, d0, d1, d2, d3, d4, d5, d6⟩ := osz_cells H1.out HBR.out hkl
        have hgl : g < wr.heap.size := by
          obtain ⟨b', off', hq', hb', _⟩ := H1.out kk hkl
          rw [hp] at hq'
          injection hq' with hq'
          injection hq' with hq' _ _
          rw [hq']
          exact Nat.lt_of_lt_of_le hb' HBR.out.size
        subst hp
        obtain ⟨zp, hzp⟩ : ∃ z, (os1[kk]).pr = z := ⟨_, rfl⟩
        rw [hzp] at d3
        have HZP := hid hzp
        have CS := hid (fun (U : World) (hU : Below wr.heap.size wr U) => shown_any (some ⟨g, o, none⟩) c1 (os1.take kk) zp U (((H1.out.on HBR.out).on hU).take kk) (by simp; omega))
        rw [show (os1.take kk).length = kk from by simp; omega] at CS
        have HGL := hid (fun (U : World) (hU : Below wr.heap.size wr U) => Nat.lt_of_lt_of_le hgl hU.size)
        have k0' : (0 : Int) ≤ (kk : Int) := by omega
        have k1 : (kk : Int) < (n1 : Int) := by omega
        have k2 : kk ≤ c1 := by omega
        have k3 : (kk : Int) ≤ (c1 : Int) := by omega
        clear hkk hzp d0 d1 d2 d4 d5 d6 hat hge
        go_upto_region 6 with (go_at_call 9; with_reducible refine (CI.out).mono ?_; rintro e w4 ⟨rfl, hb4⟩; have HB4 := hid hb4; clear hb4)
        have c3 := (HB4.out.cell (p := ⟨g, o + kk * 7 + 3, none⟩) hgl).trans d3
        clear d3 hxr y0 y1
        refine wp_region_held_drew (S := (fun U => U.cell? ⟨g, o + kk * 7 + 3, none⟩ = some (.int .i64 zp) ∧ Hid (Below wr.heap.size wr U))) (by kernel_rfl) ?_ (fun hHeld => ?_)
        · (try dsimp only); (exact ⟨c3, hid (btr HB4.out (bdrew1 _))⟩)
        refine' wpAnyH_take (i := 0) (oi := _) (v := _) rfl (by kernel_rfl) (by kernel_rfl) (by kernel_rfl) (fun _ _ _ h => h) (Or.inl ⟨by kernel_rfl, ?hyq1⟩) (by assumption) ?restq1
        case hyq1 => (intro w hSw; (try dsimp only at hSw); go_simp; try (with_reducible rfl))
        try simp only [List.getElem_toArray, List.getElem_cons_succ, List.getElem_cons_zero, Act.put, List.setIfInBounds_toArray, List.set_cons_zero, List.set_cons_succ]
        refine' wpAnyH_take (i := 1) (oi := _) (v := _) rfl (by kernel_rfl) (by kernel_rfl) (by kernel_rfl) (fun _ _ _ h => h) (Or.inl ⟨by kernel_rfl, ?hyq2⟩) (by assumption) ?restq2
        case hyq2 => (intro w hSw; (try dsimp only at hSw); go_simp; try (with_reducible rfl))
        try simp only [List.getElem_toArray, List.getElem_cons_succ, List.getElem_cons_zero, Act.put, List.setIfInBounds_toArray, List.set_cons_zero, List.set_cons_succ]
        refine' wpAnyH_take (i := 2) (oi := _) (v := _) rfl (by kernel_rfl) (by kernel_rfl) (by kernel_rfl) (fun _ _ _ h => h) (Or.inl ⟨by kernel_rfl, ?hyq3⟩) (by assumption) ?restq3
        case hyq3 => (intro w hSw; (try dsimp only at hSw); go_simp; try (with_reducible rfl))
        try simp only [List.getElem_toArray, List.getElem_cons_succ, List.getElem_cons_zero, Act.put, List.setIfInBounds_toArray, List.set_cons_zero, List.set_cons_succ]
        refine' wpAnyH_take (i := 3) (oi := _) (v := _) rfl (by kernel_rfl) (by kernel_rfl) (by kernel_rfl) (fun _ _ _ h => h) (Or.inl ⟨by kernel_rfl, ?hyq4⟩) (by assumption) ?restq4
        case hyq4 => (intro w hSw; (try dsimp only at hSw); go_simp; try (with_reducible rfl))
        try simp only [List.getElem_toArray, List.getElem_cons_succ, List.getElem_cons_zero, Act.put, List.setIfInBounds_toArray, List.set_cons_zero, List.set_cons_succ]
        refine' wpAnyH_take (i := 4) (oi := _) (v := _) rfl (by kernel_rfl) (by kernel_rfl) (by kernel_rfl) (fun _ _ _ h => h) (Or.inl ⟨by kernel_rfl, ?hyq5⟩) (by assumption) ?restq5
        case hyq5 => (intro w hSw; (try dsimp only at hSw); go_simp; try (with_reducible rfl))
        try simp only [List.getElem_toArray, List.getElem_cons_succ, List.getElem_cons_zero, Act.put, List.setIfInBounds_toArray, List.set_cons_zero, List.set_cons_succ]
        refine' wpAnyH_take (i := 5) (oi := _) (v := _) rfl (by kernel_rfl) (by kernel_rfl) (by kernel_rfl) (fun _ _ _ h => h) (Or.inl ⟨by kernel_rfl, ?hyq6⟩) (by assumption) ?restq6
        case hyq6 => (intro w hSw; (try dsimp only at hSw); go_simp; try (with_reducible rfl))
        try simp only [List.getElem_toArray, List.getElem_cons_succ, List.getElem_cons_zero, Act.put, List.setIfInBounds_toArray, List.set_cons_zero, List.set_cons_succ]
        refine' wpAnyH_take (i := 6) (oi := _) (v := _) rfl (by kernel_rfl) (by kernel_rfl) (by kernel_rfl) (fun _ _ _ h => h) (Or.inl ⟨by kernel_rfl, ?hyq7⟩) (by assumption) ?restq7
        case hyq7 => (intro w hSw; (try dsimp only at hSw); go_simp; try (with_reducible rfl))
        try simp only [List.getElem_toArray, List.getElem_cons_succ, List.getElem_cons_zero, Act.put, List.setIfInBounds_toArray, List.set_cons_zero, List.set_cons_succ]
        refine' wpAnyH_take (i := 7) (oi := _) (v := _) rfl (by kernel_rfl) (by kernel_rfl) (by kernel_rfl) (fun _ _ _ h => h) (Or.inl ⟨by kernel_rfl, ?hyq8⟩) (by assumption) ?restq8
        case hyq8 => (intro w hSw; (try dsimp only at hSw); go_simp; try (with_reducible rfl))
        try simp only [List.getElem_toArray, List.getElem_cons_succ, List.getElem_cons_zero, Act.put, List.setIfInBounds_toArray, List.set_cons_zero, List.set_cons_succ]
        obtain ⟨c3', HB4'⟩ := hHeld
        refine wpAnyH_ready (rs := [8]) (by kernel_rfl) (by simp) ?_
        refine AllReadyH.cons (o := _) rfl (fun K hK => ?_) AllReadyH.nil
        go_simp
        go_at_call 11; with_reducible refine (CS.out _ HB4'.out).mono ?_; rintro e w5 ⟨rfl, hb5⟩; have HB5 := hid hb5; clear hb5
        (try go_wp2_with fail)
        refine hK.out _ _ ?_ (fun hHeld => ?_)
        · (try dsimp only); (exact ⟨(HB5.out.cell (HGL.out _ HB4'.out)).trans c3', hid (btr HB4'.out HB5.out)⟩)
        clear hK K
        try simp only [List.getElem_toArray, List.getElem_cons_succ, List.getElem_cons_zero, Act.put, List.setIfInBounds_toArray, List.set_cons_zero, List.set_cons_succ]
        refine' wpAnyH_take (i := 9) (oi := _) (v := _) rfl (by kernel_rfl) (by kernel_rfl) (by kernel_rfl) (fun _ _ _ h => h) (Or.inl ⟨by kernel_rfl, ?hyq9⟩) (by assumption) ?restq9
        case hyq9 => (intro w hSw; (try dsimp only at hSw); go_simp; try (with_reducible rfl))
        try simp only [List.getElem_toArray, List.getElem_cons_succ, List.getElem_cons_zero, Act.put, List.setIfInBounds_toArray, List.set_cons_zero, List.set_cons_succ]
        refine' wpAnyH_take (i := 10) (oi := _) (v := _) rfl (by kernel_rfl) (by kernel_rfl) (by kernel_rfl) (fun _ _ _ h => h) (Or.inl ⟨by kernel_rfl, ?hyq10⟩) (by assumption) ?restq10
        case hyq10 => (intro w hSw; (try dsimp only at hSw); go_simp; try (with_reducible rfl))
        try simp only [List.getElem_toArray, List.getElem_cons_succ, List.getElem_cons_zero, Act.put, List.setIfInBounds_toArray, List.set_cons_zero, List.set_cons_succ]
        refine wpAnyH_done (by kernel_rfl) ?_ _
        obtain ⟨c3', HB5'⟩ := hHeld
        go_wp2
        go_ret2
        refine ⟨?_, btr (btr HBW.out HBR.out) HB5'.out⟩
        unfold ah
        rw [if_pos (by rw [HKK.out]; omega), ah1_eq HKK.out hkl, HZP.out]
        rfl
      · have hm1 : fni id os1 = -1 := by omega
        rw [hm1] at CI
        have HM1 := hid hm1
        clear hat hm1 hge
        go_wp2_with (go_at_call 9; with_reducible refine (CI.out).mono ?_; rintro e w4 ⟨rfl, hb4⟩; have HB4 := hid hb4; clear hb4)
        go_roundw
        case rel => exact ⟨1, by omega, by go_num, hid ⟨fun _ => HM1.out, fun h => by omega⟩, hid (btr HBR.out HB4.out)⟩
        case measure => simp [intOf]
    · have CI := hid (indexFunc_any q2 c2 (R + 1) os2 id wr (H2.out.on HBR.out) hxr hXr (by rw [HN2.out]; exact hn2))
      rw [HN2.out] at CI
      have hge := fni_ge id os2
      rw [HN2.out] at hge
      by_cases hat : 0 ≤ fni id os2
      · obtain ⟨kk, hkk⟩ : ∃ kk : Nat, fni id os2 = (kk : Int) := ⟨(fni id os2).toNat, by omega⟩
        have hkn : kk < n2 := by omega
        have hkl : kk < os2.length := by rw [HN2.out]; exact hkn
        rw [hkk] at CI
        have HKK := hid hkk
        obtain ⟨g, o, hp, d0, d1, d2, d3, d4, d5, d6⟩ := osz_cells H2.out HBR.out hkl
        have hgl : g < wr.heap.size := by
          obtain ⟨b', off', hq', hb', _⟩ := H2.out kk hkl
          rw [hp] at hq'
          injection hq' with hq'
          injection hq' with hq' _ _
          rw [hq']
          exact Nat.lt_of_lt_of_le hb' HBR.out.size
        subst hp
        obtain ⟨zp, hzp⟩ : ∃ z, (os2[kk]).pr = z := ⟨_, rfl⟩
        rw [hzp] at d3
        have HZP := hid hzp
        have CS := hid (fun (U : World) (hU : Below wr.heap.size wr U) => shown_any (some ⟨g, o, none⟩) c2 (os2.take kk) zp U (((H2.out.on HBR.out).on hU).take kk) (by simp; omega))
        rw [show (os2.take kk).length = kk from by simp; omega] at CS
        have HGL := hid (fun (U : World) (hU : Below wr.heap.size wr U) => Nat.lt_of_lt_of_le hgl hU.size)
        have k0' : (0 : Int) ≤ (kk : Int) := by omega
        have k1 : (kk : Int) < (n2 : Int) := by omega
        have k2 : kk ≤ c2 := by omega
        have k3 : (kk : Int) ≤ (c2 : Int) := by omega
        clear hkk hzp d0 d1 d2 d4 d5 d6 hat hge
        go_upto_region 6 with (go_at_call 9; with_reducible refine (CI.out).mono ?_; rintro e w4 ⟨rfl, hb4⟩; have HB4 := hid hb4; clear hb4)
        have c3 := (HB4.out.cell (p := ⟨g, o + kk * 7 + 3, none⟩) hgl).trans d3
        clear d3 hxr y0 y1
        refine wp_region_held_drew (S := (fun U => U.cell? ⟨g, o + kk * 7 + 3, none⟩ = some (.int .i64 zp) ∧ Hid (Below wr.heap.size wr U))) (by kernel_rfl) ?_ (fun hHeld => ?_)
        · (try dsimp only); (exact ⟨c3, hid (btr HB4.out (bdrew1 _))⟩)
        refine' wpAnyH_take (i := 0) (oi := _) (v := _) rfl (by kernel_rfl) (by kernel_rfl) (by kernel_rfl) (fun _ _ _ h => h) (Or.inl ⟨by kernel_rfl, ?hyq11⟩) (by assumption) ?restq11
        case hyq11 => (intro w hSw; (try dsimp only at hSw); go_simp; try (with_reducible rfl))
        try simp only [List.getElem_toArray, List.getElem_cons_succ, List.getElem_cons_zero, Act.put, List.setIfInBounds_toArray, List.set_cons_zero, List.set_cons_succ]
        refine' wpAnyH_take (i := 1) (oi := _) (v := _) rfl (by kernel_rfl) (by kernel_rfl) (by kernel_rfl) (fun _ _ _ h => h) (Or.inl ⟨by kernel_rfl, ?hyq12⟩) (by assumption) ?restq12
        case hyq12 => (intro w hSw; (try dsimp only at hSw); go_simp; try (with_reducible rfl))
        try simp only [List.getElem_toArray, List.getElem_cons_succ, List.getElem_cons_zero, Act.put, List.setIfInBounds_toArray, List.set_cons_zero, List.set_cons_succ]
        refine' wpAnyH_take (i := 2) (oi := _) (v := _) rfl (by kernel_rfl) (by kernel_rfl) (by kernel_rfl) (fun _ _ _ h => h) (Or.inl ⟨by kernel_rfl, ?hyq13⟩) (by assumption) ?restq13
        case hyq13 => (intro w hSw; (try dsimp only at hSw); go_simp; try (with_reducible rfl))
        try simp only [List.getElem_toArray, List.getElem_cons_succ, List.getElem_cons_zero, Act.put, List.setIfInBounds_toArray, List.set_cons_zero, List.set_cons_succ]
        refine' wpAnyH_take (i := 3) (oi := _) (v := _) rfl (by kernel_rfl) (by kernel_rfl) (by kernel_rfl) (fun _ _ _ h => h) (Or.inl ⟨by kernel_rfl, ?hyq14⟩) (by assumption) ?restq14
        case hyq14 => (intro w hSw; (try dsimp only at hSw); go_simp; try (with_reducible rfl))
        try simp only [List.getElem_toArray, List.getElem_cons_succ, List.getElem_cons_zero, Act.put, List.setIfInBounds_toArray, List.set_cons_zero, List.set_cons_succ]
        refine' wpAnyH_take (i := 4) (oi := _) (v := _) rfl (by kernel_rfl) (by kernel_rfl) (by kernel_rfl) (fun _ _ _ h => h) (Or.inl ⟨by kernel_rfl, ?hyq15⟩) (by assumption) ?restq15
        case hyq15 => (intro w hSw; (try dsimp only at hSw); go_simp; try (with_reducible rfl))
        try simp only [List.getElem_toArray, List.getElem_cons_succ, List.getElem_cons_zero, Act.put, List.setIfInBounds_toArray, List.set_cons_zero, List.set_cons_succ]
        refine' wpAnyH_take (i := 5) (oi := _) (v := _) rfl (by kernel_rfl) (by kernel_rfl) (by kernel_rfl) (fun _ _ _ h => h) (Or.inl ⟨by kernel_rfl, ?hyq16⟩) (by assumption) ?restq16
        case hyq16 => (intro w hSw; (try dsimp only at hSw); go_simp; try (with_reducible rfl))
        try simp only [List.getElem_toArray, List.getElem_cons_succ, List.getElem_cons_zero, Act.put, List.setIfInBounds_toArray, List.set_cons_zero, List.set_cons_succ]
        refine' wpAnyH_take (i := 6) (oi := _) (v := _) rfl (by kernel_rfl) (by kernel_rfl) (by kernel_rfl) (fun _ _ _ h => h) (Or.inl ⟨by kernel_rfl, ?hyq17⟩) (by assumption) ?restq17
        case hyq17 => (intro w hSw; (try dsimp only at hSw); go_simp; try (with_reducible rfl))
        try simp only [List.getElem_toArray, List.getElem_cons_succ, List.getElem_cons_zero, Act.put, List.setIfInBounds_toArray, List.set_cons_zero, List.set_cons_succ]
        refine' wpAnyH_take (i := 7) (oi := _) (v := _) rfl (by kernel_rfl) (by kernel_rfl) (by kernel_rfl) (fun _ _ _ h => h) (Or.inl ⟨by kernel_rfl, ?hyq18⟩) (by assumption) ?restq18
        case hyq18 => (intro w hSw; (try dsimp only at hSw); go_simp; try (with_reducible rfl))
        try simp only [List.getElem_toArray, List.getElem_cons_succ, List.getElem_cons_zero, Act.put, List.setIfInBounds_toArray, List.set_cons_zero, List.set_cons_succ]
        obtain ⟨c3', HB4'⟩ := hHeld
        refine wpAnyH_ready (rs := [8]) (by kernel_rfl) (by simp) ?_
        refine AllReadyH.cons (o := _) rfl (fun K hK => ?_) AllReadyH.nil
        go_simp
        go_at_call 11; with_reducible refine (CS.out _ HB4'.out).mono ?_; rintro e w5 ⟨rfl, hb5⟩; have HB5 := hid hb5; clear hb5
        (try go_wp2_with fail)
        refine hK.out _ _ ?_ (fun hHeld => ?_)
        · (try dsimp only); (exact ⟨(HB5.out.cell (HGL.out _ HB4'.out)).trans c3', hid (btr HB4'.out HB5.out)⟩)
        clear hK K
        try simp only [List.getElem_toArray, List.getElem_cons_succ, List.getElem_cons_zero, Act.put, List.setIfInBounds_toArray, List.set_cons_zero, List.set_cons_succ]
        refine' wpAnyH_take (i := 9) (oi := _) (v := _) rfl (by kernel_rfl) (by kernel_rfl) (by kernel_rfl) (fun _ _ _ h => h) (Or.inl ⟨by kernel_rfl, ?hyq19⟩) (by assumption) ?restq19
        case hyq19 => (intro w hSw; (try dsimp only at hSw); go_simp; try (with_reducible rfl))
        try simp only [List.getElem_toArray, List.getElem_cons_succ, List.getElem_cons_zero, Act.put, List.setIfInBounds_toArray, List.set_cons_zero, List.set_cons_succ]
        refine' wpAnyH_take (i := 10) (oi := _) (v := _) rfl (by kernel_rfl) (by kernel_rfl) (by kernel_rfl) (fun _ _ _ h => h) (Or.inl ⟨by kernel_rfl, ?hyq20⟩) (by assumption) ?restq20
        case hyq20 => (intro w hSw; (try dsimp only at hSw); go_simp; try (with_reducible rfl))
        try simp only [List.getElem_toArray, List.getElem_cons_succ, List.getElem_cons_zero, Act.put, List.setIfInBounds_toArray, List.set_cons_zero, List.set_cons_succ]
        refine wpAnyH_done (by kernel_rfl) ?_ _
        obtain ⟨c3', HB5'⟩ := hHeld
        go_wp2
        go_ret2
        refine ⟨?_, btr (btr HBW.out HBR.out) HB5'.out⟩
        unfold ah
        rw [if_neg (by rw [HF.out.1 (by omega)]; omega), if_pos (by rw [HKK.out]; omega), ah1_eq HKK.out hkl, HZP.out]
        rfl
      · have hm1 : fni id os2 = -1 := by omega
        rw [hm1] at CI
        have HM1 := hid hm1
        clear hat hm1 hge
        go_wp2_with (go_at_call 9; with_reducible refine (CI.out).mono ?_; rintro e w4 ⟨rfl, hb4⟩; have HB4 := hid hb4; clear hb4)
        go_roundw
        case rel => exact ⟨2, by omega, by go_num, hid ⟨fun _ => HF.out.1 (by omega), fun _ => HM1.out⟩, hid (btr HBR.out HB4.out)⟩
        case measure => simp [intOf]
    · go_wp2
      go_ret2
      refine ⟨?_, btr HBW.out HBR.out⟩
      obtain ⟨f1, f2⟩ := HF.out
      unfold ah
      rw [f1 (by omega), f2 (by omega)]
      rfl
end Go.Proofs.Ytopfgoifmcjcaaa
