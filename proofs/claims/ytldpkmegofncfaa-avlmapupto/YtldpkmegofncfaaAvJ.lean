/-
  Len, Height, Clone, Get, At.
-/
import Derived.Test.YtldpkmegofncfaaAvI
namespace Go.Proofs.Ytldpkmegofncfaa
open Go.RowKit Go.Deep
set_option linter.unusedVariables false
set_option linter.unusedSimpArgs false
theorem Av.top {w : World} {B : Nat} {t : T} (h : Av w B t) : ∃ p z, pa p = z ∧ Tr w t p ∧ w.cell? ⟨B, 0, none⟩ = some (.pointer z) := by
  obtain ⟨p, h1, h2⟩ := h
  exact ⟨p, _, rfl, h2, row_cell h1 0⟩
set_option maxHeartbeats 1000000 in
theorem len_any {w : World} {B : Nat} {t : T} (h : Av w B t) :
    Calls Try.prog 13 #[.pointer (some ⟨B, 0, none⟩)] w fun e w' => e = .returned (.int .i64 t.n) ∧ w' = w := by
  obtain ⟨p, z, hz, h2, c0⟩ := h.top
  have CO := hid (show Calls Try.prog 43 #[.pointer z] w fun e w' => e = .returned (.int .i64 t.n) ∧ w' = w from by rw [← hz]; exact count_any h2)
  clear h h2 hz
  go_enter Try.func13, Try.ntmps13
  go_wp2_with (first | (go_at_call 43; with_reducible refine (CO.out).mono ?_; rintro e w9 ⟨rfl, rfl⟩))
  go_ret
  exact ⟨rfl, rfl⟩
set_option maxHeartbeats 1000000 in
theorem height_any {w : World} {B : Nat} {t : T} (h : Av w B t) :
    Calls Try.prog 22 #[.pointer (some ⟨B, 0, none⟩)] w fun e w' => e = .returned (.int .i64 t.h) ∧ w' = w := by
  obtain ⟨p, z, hz, h2, c0⟩ := h.top
  have CO := hid (show Calls Try.prog 47 #[.pointer z] w fun e w' => e = .returned (.int .i64 t.h) ∧ w' = w from by rw [← hz]; exact tall_any h2)
  clear h h2 hz
  go_enter Try.func22, Try.ntmps22
  go_wp2_with (first | (go_at_call 47; with_reducible refine (CO.out).mono ?_; rintro e w9 ⟨rfl, rfl⟩))
  go_ret
  exact ⟨rfl, rfl⟩
set_option maxHeartbeats 1000000 in
theorem clone_any {w : World} {B : Nat} {t : T} (h : Av w B t) :
    Calls Try.prog 23 #[.pointer (some ⟨B, 0, none⟩)] w fun e w' => e = .returned (.pointer (some ⟨w.heap.size, 0, none⟩)) ∧ Av w' w.heap.size t ∧ Below w.heap.size w w' := by
  obtain ⟨p, z, hz, h2, c0⟩ := h.top
  have FIN := hid (show Av (w.alloc (.cells #[.pointer z] 32)) w.heap.size t from ⟨p, by rw [hz]; exact heap_alloc_new _ _, h2.on (ball _ _)⟩)
  clear h h2 hz
  go_enter Try.func23, Try.ntmps23
  go_wp2
  go_ret
  exact ⟨rfl, FIN.out, ball _ _⟩
/-- the key of a rank. -/
def T.nth : T → Int → Option Int
  | .nil, _ => none
  | .nd k v l r, i => if i = l.n then some k else if i < l.n then l.nth i else r.nth (i - (l.n + 1))
theorem key_q {w : World} {t : T} {p : Option Nat} {z : Option Addr} (hz : pa p = z) (h : Tr w t p) : Calls Try.prog 45 #[.pointer z] w fun e w' => e = .returned (oV t.key?) ∧ w' = w := by
  subst hz; exact keyOf_any h
theorem oV_eq (o : Option Int) : ∃ k b, oV o = .tuple #[.int .i64 k, .bool b] := by
  cases o
  · exact ⟨_, _, rfl⟩
  · exact ⟨_, _, rfl⟩
set_option maxHeartbeats 2000000 in
set_option maxRecDepth 100000 in
theorem get_any {w : World} {B : Nat} {t : T} (h : Av w B t) (key : Int) :
    Calls Try.prog 14 #[.pointer (some ⟨B, 0, none⟩), .int .i64 key] w fun e w' => e = .returned (oV (t.get key)) ∧ Below w.heap.size w w' := by
  obtain ⟨p, z, hz, h2, c0⟩ := h.top
  have HT := hid h2
  have HZ := hid hz
  clear h h2 hz
  have w1 : IntKind.i64.wrap 1 = 1 := by decide
  have w0 : IntKind.i64.wrap 0 = 0 := by decide
  go_enter Try.func14, Try.ntmps14
  go_wp2_with fail
  go_loopw [6] (fun nv wr => ∃ s q, nv = .pointer (pa q) ∧ Hid (Tr wr s q) ∧ Hid (t.find key = s.find key) ∧ Hid (Below w.heap.size w wr)) (fun nv wr => hOf wr nv)
  case atStart => exact ⟨t, p, by rw [HZ.out], HT, rfl, Below.refl _ _⟩
  case round =>
    obtain ⟨s, q, rfl, HS, HF, HB⟩ := hrel
    cases s with
    | nil =>
      obtain rfl := HS.out.ofNil
      simp only [pa]
      have VL := hid (val_q (p := none) rfl HS.out)
      simp only [pa, T.val, oV] at VL
      have HG := hid (show t.get key = none from by unfold T.get; rw [HF.out]; rfl)
      go_wp2_with (first | (go_at_call 41; with_reducible refine (VL.out).mono ?_; rintro e w5 ⟨rfl, rfl⟩))
      go_ret2
      exact ⟨by rw [HG.out]; rfl, HB.out⟩
    | nd k v l r =>
      obtain ⟨b, rfl⟩ := HS.out.ofNd
      have HH := hid (hOf_tr HS.out)
      have hlt := HS.out.lt
      obtain ⟨pl, pr, -, hl, hr, c0', -, c2, c3⟩ := HS.out.cells
      by_cases hk : k = key
      · subst hk
        have VL := hid (val_q (p := some b) rfl HS.out)
        simp only [T.val, oV, pa] at VL
        have HG := hid (show t.get k = some v from by unfold T.get; rw [HF.out, T.find, if_pos rfl]; rfl)
        simp only [pa] at *
        have kk : (k == k) = true := by simp
        clear hl hr c2 c3
        go_wp2_with (first | (go_at_call 41; with_reducible refine (VL.out).mono ?_; rintro e w5 ⟨rfl, rfl⟩))
        go_ret2
        exact ⟨by rw [HG.out]; rfl, HB.out⟩
      · have hk1 : (k == key) = false := by simpa using hk
        have hk2 : ¬ key = k := fun e => hk e.symm
        have HLX := hid (hl.on (below_drews (b := wr.drew) rfl rfl rfl rfl))
        have HRX := hid (hr.on (below_drews (b := wr.drew) rfl rfl rfl rfl))
        have HBX := hid (bdrew HB.out)
        obtain ⟨zl, hzl⟩ : ∃ z, pa pl = z := ⟨_, rfl⟩
        obtain ⟨zr, hzr⟩ : ∃ z, pa pr = z := ⟨_, rfl⟩
        rw [hzl] at c2
        rw [hzr] at c3
        have HZL := hid hzl
        have HZR := hid hzr
        have d0d : wr.drew.cell? ⟨b, 0, none⟩ = some (.int .i64 k) := c0'
        have d2d : wr.drew.cell? ⟨b, 2, none⟩ = some (.pointer zl) := c2
        have d3d : wr.drew.cell? ⟨b, 3, none⟩ = some (.pointer zr) := c3
        have SD := hid (sideOf_any key k wr.drew)
        simp only [pa] at HH ⊢
        clear hl hr hzl hzr hk
        go_wp2_with fail
        by_cases hlt : key < k
        · have HNL := hid hlt
          simp only [sdI, hlt, if_true] at SD
          go_region_held3 (fun w' => w'.cell? ⟨b, 0, none⟩ = some (.int .i64 k) ∧ w'.cell? ⟨b, 2, none⟩ = some (.pointer zl) ∧ w'.cell? ⟨b, 3, none⟩ = some (.pointer zr)) (go_keep) (first | (go_at_call 44; with_reducible refine (SD.out).mono ?_; rintro e w9 ⟨rfl, rfl⟩))
          go_wp2_with fail
          go_roundw
          case rel => exact ⟨l, pl, (congrArg Value.pointer HZL.out).symm, HLX, hid (by rw [HF.out, T.find_l hk2 HNL.out]), HBX⟩
          case measure =>
            have h1 := hOf_tr HLX.out
            rw [HZL.out] at h1
            rw [h1, HH.out]
            simp only [T.h]; omega
        · have HNL := hid hlt
          simp only [sdI, hlt, if_false] at SD
          go_region_held3 (fun w' => w'.cell? ⟨b, 0, none⟩ = some (.int .i64 k) ∧ w'.cell? ⟨b, 2, none⟩ = some (.pointer zl) ∧ w'.cell? ⟨b, 3, none⟩ = some (.pointer zr)) (go_keep) (first | (go_at_call 44; with_reducible refine (SD.out).mono ?_; rintro e w9 ⟨rfl, rfl⟩))
          go_wp2_with fail
          go_roundw
          case rel => exact ⟨r, pr, (congrArg Value.pointer HZR.out).symm, HRX, hid (by rw [HF.out, T.find_r hk2 (by have := HNL.out; omega)]), HBX⟩
          case measure =>
            have h1 := hOf_tr HRX.out
            rw [HZR.out] at h1
            rw [h1, HH.out]
            simp only [T.h]; omega
set_option maxHeartbeats 2000000 in
set_option maxRecDepth 100000 in
theorem at_any {w : World} {B : Nat} {t : T} (h : Av w B t) (hn : t.n < 2971215072) (i : Int) (hi : i < 9223372036854775808) :
    Calls Try.prog 17 #[.pointer (some ⟨B, 0, none⟩), .int .i64 i] w fun e w' => e = .returned (oV (t.nth i)) ∧ w' = w := by
  obtain ⟨p, z, hz, h2, c0⟩ := h.top
  have HT := hid h2
  have HZ := hid hz
  have HI := hid hi
  have HN := hid hn
  clear h h2 hz hi hn
  go_enter Try.func17, Try.ntmps17
  go_wp2_with fail
  go_loopw [1, 6, 7] (fun iv nv _ wr => ∃ s q j, nv = .pointer (pa q) ∧ iv = .int .i64 j ∧ wr = w ∧ Hid (j < 9223372036854775808) ∧ Hid (Tr w s q) ∧ Hid (t.nth i = s.nth j) ∧ Hid (s.n < 2971215072)) (fun _ nv _ wr => hOf wr nv)
  case atStart => exact ⟨t, p, i, by rw [HZ.out], rfl, rfl, HI, HT, rfl, HN⟩
  case round =>
    obtain ⟨s, q, j, rfl, rfl, rfl, HJ, HS, HF, HM⟩ := hrel
    cases s with
    | nil =>
      obtain rfl := HS.out.ofNil
      simp only [pa]
      have VL := hid (key_q (p := none) rfl HS.out)
      simp only [pa, T.key?, oV] at VL
      go_wp2_with (first | (go_at_call 45; with_reducible refine (VL.out).mono ?_; rintro e w5 ⟨rfl, rfl⟩))
      go_ret2
      exact ⟨by rw [HF.out]; rfl, rfl⟩
    | nd k v l r =>
      obtain ⟨b, rfl⟩ := HS.out.ofNd
      have HH := hid (hOf_tr HS.out)
      obtain ⟨pl, pr, -, hl, hr, c0', -, c2, c3⟩ := HS.out.cells
      obtain ⟨zl, hzl⟩ : ∃ z, pa pl = z := ⟨_, rfl⟩
      obtain ⟨zr, hzr⟩ : ∃ z, pa pr = z := ⟨_, rfl⟩
      rw [hzl] at c2
      rw [hzr] at c3
      have HZL := hid hzl
      have HZR := hid hzr
      have HLX := hid hl
      have HRX := hid hr
      have CO := hid (show Calls Try.prog 43 #[.pointer zl] wr fun e w' => e = .returned (.int .i64 l.n) ∧ w' = wr from by rw [← hzl]; exact count_any hl)
      have hnn := HM.out
      simp only [T.n] at hnn
      have hjj := HJ.out
      have HE := hid (show (T.nd k v l r).nth j = if j = l.n then some k else if j < l.n then l.nth j else r.nth (j - (l.n + 1)) from rfl)
      obtain ⟨ln, hln⟩ : ∃ n, l.n = n := ⟨_, rfl⟩
      rw [hln] at CO HE hnn
      have HX := hid (And.intro hnn hln)
      have VL := hid (key_q (p := some b) rfl HS.out)
      simp only [T.key?, oV, pa] at VL
      simp only [pa] at HH ⊢
      clear hl hr hzl hzr hln
      by_cases e1 : j = ln
      · subst e1
        have i1 : ((ln : Int) == (ln : Int)) = true := by simp
        have HA := hid (show t.nth i = some k from by rw [HF.out, HE.out, if_pos rfl])
        clear hnn hjj
        go_wp2_with (first | (go_at_call 43; with_reducible refine (CO.out).mono ?_; rintro e w5 ⟨rfl, rfl⟩) | (go_at_call 45; with_reducible refine (VL.out).mono ?_; rintro e w5 ⟨rfl, rfl⟩))
        go_ret2
        exact ⟨by rw [HA.out]; rfl, rfl⟩
      · have i1 : (j == (ln : Int)) = false := by simpa using e1
        by_cases e2 : j < ln
        · have HA := hid (show t.nth i = l.nth j from by rw [HF.out, HE.out, if_neg e1, if_pos e2])
          clear hnn hjj e1
          go_wp2_with (first | (go_at_call 43; with_reducible refine (CO.out).mono ?_; rintro e w5 ⟨rfl, rfl⟩))
          go_roundw
          case rel => exact ⟨l, pl, j, (congrArg Value.pointer HZL.out).symm, rfl, by first | trivial | rfl, HJ, HLX, HA, hid (by have := HX.out; omega)⟩
          case measure =>
            have h1 := hOf_tr HLX.out
            rw [HZL.out] at h1
            rw [h1, HH.out]
            simp only [T.h]; omega
        · have HA := hid (show t.nth i = r.nth (j - (ln + 1)) from by rw [HF.out, HE.out, if_neg e1, if_neg e2])
          have i2 : decide (j < (ln : Int)) = false := by simp; omega
          have i3 : IntKind.i64.wrap ((ln : Int) + 1) = (ln : Int) + 1 := by simp [IntKind.wrap, IntKind.bits, IntKind.signed]; omega
          have i4 : IntKind.i64.wrap (j - ((ln : Int) + 1)) = j - ((ln : Int) + 1) := by simp [IntKind.wrap, IntKind.bits, IntKind.signed]; omega
          have HJ2 := hid (show j - ((ln : Int) + 1) < 9223372036854775808 by omega)
          clear hnn hjj e1 e2
          go_wp2_with (first | (go_at_call 43; with_reducible refine (CO.out).mono ?_; rintro e w5 ⟨rfl, rfl⟩))
          go_roundw
          case rel => exact ⟨r, pr, j - ((ln : Int) + 1), (congrArg Value.pointer HZR.out).symm, rfl, by first | trivial | rfl, HJ2, HRX, HA, hid (by have := HX.out; omega)⟩
          case measure =>
            have h1 := hOf_tr HRX.out
            rw [HZR.out] at h1
            rw [h1, HH.out]
            simp only [T.h]; omega
end Go.Proofs.Ytldpkmegofncfaa
