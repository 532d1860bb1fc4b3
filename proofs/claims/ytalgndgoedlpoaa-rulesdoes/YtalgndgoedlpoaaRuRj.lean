/-
  RuRj
-/
import Derived.Test.YtalgndgoedlpoaaRuRi
namespace Go.Proofs.Ytalgndgoedlpoaa
open Go.RowKit Go.Deep Go.Shelf
set_option linter.unusedVariables false
set_option linter.unusedSimpArgs false
set_option maxHeartbeats 8000000
set_option maxRecDepth 100000
/-- the document's book is the program's. -/
structure Dof (d : Db) (b : Bs) : Prop where
 cap : d.cap = b.cap
 meet : d.meet = b.meet
 o1 : d.o1 = osl b.l1
 o2 : d.o2 = osl b.l2
 high : d.high = b.high
 seq : d.seq = b.seq
theorem Dof.os {d : Db} {b : Bs} (h : Dof d b) (s : Int) : d.os s = osl (b.sl s) := by
 unfold Db.os Bs.sl
 split
 ·exact h.o1
 ·exact h.o2
theorem Dof.fo {d : Db} {b : Bs} (h : Dof d b) (id : Int) : d.fo id = Go.Proofs.Ytalgndgoedlpoaa.fo b id := by
 unfold Db.fo Go.Proofs.Ytalgndgoedlpoaa.fo
 simp only [h.o1, h.o2, fnO_osl]
 split
 ·simp only [osl, List.getElem_map]
 ·split
  ·simp only [osl, List.getElem_map]
  ·rfl
theorem mtO_osl (o : Or) (s : Int) (l : LO) : mtO o s (osl l) = mtl o s l := by cases l <;> rfl
theorem Dof.mts {d : Db} {b : Bs} (h : Dof d b) (o : Or) (s : Int) : mtO o s (d.os (oth s)) = Go.Proofs.Ytalgndgoedlpoaa.mts b o s := by rw [h.os, mtO_osl]; rfl
theorem mtO_alike {o o2 : Or} {s : Int} {l : List Or} (h1 : o2.ty = o.ty) (h2 : o2.pr = o.pr) : mtO o2 s l = mtO o s l := by
 cases l with
 | nil => rfl
 | cons x l => show rch o2 s x.pr = rch o s x.pr; unfold rch; rw [h1, h2]
theorem am_ne (c : Cm) (k : Int) : am c k ≠ 90 := by
 unfold am
 split
 ·decide
 ·split
  ·decide
  ·split
   ·decide
   ·split <;> decide
theorem chk_90 {c : Cm} : chk c = 90 ↔ (c.kd < 1 ∨ 3 < c.kd) := by
 rw [chk_am]
 constructor
 ·intro h
  by_cases k1 : c.kd = 1
  ·exfalso
   rw [if_neg (by omega), if_neg (by omega), if_pos k1] at h
   split at h
   ·omega
   ·split at h
    ·omega
    ·exact am_ne _ _ h
  ·by_cases k2 : c.kd = 2
   ·rw [if_pos k2] at h; omega
   ·by_cases k3 : c.kd = 3
    ·rw [if_neg k2, if_pos k3] at h; exact absurd h (am_ne _ _)
    ·omega
 ·intro h
  rw [if_neg (by omega), if_neg (by omega), if_neg (by omega)]
theorem cmr_at {w : World} {g : Nat} {c : Cm} (h : w.heap[g]? = some (.cells #[.int .i64 c.kd, .int .u64 c.id, .int .u64 c.tg, .int .u32 c.mb, .int .i64 c.sd, .int .i64 c.ty, .int .i64 c.pr, .int .u64 c.qt, .int .u64 c.pk] 39 (0, 0))) : w.cell? ⟨g, 0, none⟩ = some (.int .i64 c.kd) ∧ w.cell? ⟨g, 1, none⟩ = some (.int .u64 c.id) ∧ w.cell? ⟨g, 2, none⟩ = some (.int .u64 c.tg) ∧ w.cell? ⟨g, 3, none⟩ = some (.int .u32 c.mb) ∧ w.cell? ⟨g, 4, none⟩ = some (.int .i64 c.sd) ∧ w.cell? ⟨g, 5, none⟩ = some (.int .i64 c.ty) ∧ w.cell? ⟨g, 6, none⟩ = some (.int .i64 c.pr) ∧ w.cell? ⟨g, 7, none⟩ = some (.int .u64 c.qt) ∧ w.cell? ⟨g, 8, none⟩ = some (.int .u64 c.pk) := ⟨row_cell h 0, row_cell h 1, row_cell h 2, row_cell h 3, row_cell h 4, row_cell h 5, row_cell h 6, row_cell h 7, row_cell h 8⟩
theorem drefused_any (d : Db) (b : Bs) (c : Cm) (w : World) (hd : Dof d b) (h : Dm w d) (hc : CmOk c) :
  Calls Try.prog 29 #[.agg d.row, .agg (cmr c)] w fun e w' => e = .returned (.int .i64 (rfs b c)) ∧ Below w.heap.size w w' := by
 have CF := hid (fun (U : World) (hU : Below w.heap.size w U) => dfind_any d c.tg U (h.on hU))
 rw [hd.fo] at CF
 have CK := hid (fun U => dcheck_any c U hc)
 have hsd : chk c = 0 → c.kd = 1 → c.sd = 1 ∨ c.sd = 2 := fun h0 h1 => by
  rw [chk_am, if_neg (by omega), if_neg (by omega), if_pos h1] at h0
  by_cases hs : c.sd ≠ 1 ∧ c.sd ≠ 2
  ·rw [if_pos hs] at h0; omega
  ·omega
 have CM := hid (fun (U : World) (hU : Below w.heap.size w U) (t p s : Int) (hs : s = 1 ∨ s = 2) => dmeets_any d ⟨0, 0, t, p, 0, 0, 0⟩ s 0 hs U (h.on hU))
 have HMT := hid (fun (o : Or) (s : Int) => (show mtO ⟨0, 0, o.ty, o.pr, 0, 0, 0⟩ s (d.os (oth s)) = mts b o s from by rw [mtO_alike (o := o) (o2 := ⟨0, 0, o.ty, o.pr, 0, 0, 0⟩) rfl rfl, hd.mts]))
 have hl1 : d.o1.length = b.l1.length := by rw [hd.o1]; simp [osl]
 have hl2 : d.o2.length = b.l2.length := by rw [hd.o2]; simp [osl]
 have hcap := hd.cap
 have hhi := hd.high
 have hb1 := h.l1
 have hb2 := h.l2
 have HFS := hid (fun (hh : (fo b c.tg).2.2 = true) => fo_side hh)
 obtain ⟨y, hy⟩ : ∃ y, chk c = y := ⟨_, rfl⟩
 have HY := hid hy
 obtain ⟨z, hz⟩ : ∃ z, (fo b c.tg).1 = z := ⟨_, rfl⟩
 obtain ⟨sv, hsv⟩ : ∃ z, (fo b c.tg).2.1 = z := ⟨_, rfl⟩
 obtain ⟨tv, htv⟩ : ∃ z, (fo b c.tg).2.2 = z := ⟨_, rfl⟩
 have HZV := hid hz
 have HSV := hid hsv
 have HTV := hid htv
 rw [hz, hsv, htv] at CF
 rw [hy] at CK hsd
 have HSD := hid hsd
 have HCH := hid (show y = 90 ↔ (c.kd < 1 ∨ 3 < c.kd) from by rw [← hy]; exact chk_90)
 have HY2 := hid (show c.kd = 2 → y = 0 from fun k => by rw [← hy, chk_am, if_pos k])
 obtain ⟨R, hR⟩ : ∃ R, w.heap.size = R := ⟨_, rfl⟩
 obtain ⟨U0, hU0⟩ : ∃ U, w.alloc (.cells d.row 32) = U := ⟨_, rfl⟩
 obtain ⟨W, hW⟩ : ∃ U, U0.alloc (.cells (cmr c) 39) = U := ⟨_, rfl⟩
 have s0 : U0.heap.size = R + 1 := by rw [← hU0, ← hR]; simp
 have hbW : Below w.heap.size w W := by rw [← hW, ← hU0]; exact btr (ball _ _) (ball _ _)
 have hA : W.heap[R]? = some (.cells d.row 32 (0, 0)) := by rw [← hW]; exact row_on (by rw [← hU0, ← hR]; exact World.alloc_heap_new _ _) (ball _ _)
 have hB : W.heap[R + 1]? = some (.cells (cmr c) 39 (0, 0)) := by rw [← hW, ← s0]; exact World.alloc_heap_new _ _
 have HU0 := hid hU0
 have HW := hid hW
 have HRR := hid hR
 have HBW := hid hbW
 have HA := hid hA
 have HB := hid hB
 have HHI := hid hhi
 have HCAP := hid hcap
 have HL1 := hid hl1
 have HL2 := hid hl2
 unfold Db.row at HU0 HA CF CM
 unfold cmr at HW HB CK
 unfold cmg at CM
 unfold orow at CF
 simp only at CM
 have HCA := hid (fun (U : World) (hU : Below W.heap.size W U) => row6 (row_on HA.out hU))
 have HCB := hid (fun (U : World) (hU : Below W.heap.size W U) => cmr_at (row_on HB.out hU))
 have hln : (d.o1.length : Int) + (d.o2.length : Int) < 9223372036854775808 := by omega
 have hlw : IntKind.i64.wrap ((d.o1.length : Int) + (d.o2.length : Int)) = (d.o1.length : Int) + (d.o2.length : Int) := by rw [IntKind.wrap_i64]; omega
 unfold Db.row cmr
 clear hR hU0 hW s0 hbW hA hB HA hd h hc hy hz hsv htv hsd hl1 hl2 hcap hhi hb1 hb2 hln
 have RF : rfs b c = if c.kd < 1 ∨ 3 < c.kd then 90 else if c.kd ≠ 1 ∧ tv = false then 91 else if y ≠ 0 ∨ c.kd = 2 then y else if c.id ≤ d.high then 97 else if c.kd = 1 ∧ (c.ty = 1 ∨ c.ty = 5) ∧ d.cap ≤ (d.o1.length : Int) + d.o2.length then 98 else if (if c.kd = 3 then z.ty else c.ty) = 5 ∧ mtO ⟨0, 0, if c.kd = 3 then z.ty else c.ty, c.pr, 0, 0, 0⟩ (if c.kd = 3 then sv else c.sd) (d.os (oth (if c.kd = 3 then sv else c.sd))) = true then 99 else 0 := by
  have e1 : ∀ (t s : Int), mtO ⟨0, 0, t, c.pr, 0, 0, 0⟩ s (d.os (oth s)) = mts b ⟨c.id, c.mb, t, c.pr, 0, 0, c.pk⟩ s := fun t s => HMT.out ⟨c.id, c.mb, t, c.pr, 0, 0, c.pk⟩ s
  have e2 : ∀ (t s mm : Int), mts b ⟨c.id, mm, t, c.pr, 0, 0, c.pk⟩ s = mts b ⟨c.id, c.mb, t, c.pr, 0, 0, c.pk⟩ s := fun t s mm => by rw [← HMT.out ⟨c.id, mm, t, c.pr, 0, 0, c.pk⟩ s, ← HMT.out ⟨c.id, c.mb, t, c.pr, 0, 0, c.pk⟩ s]
  unfold rfs
  simp only [HCH.out, HY.out, HTV.out, HHI.out, HCAP.out, HL1.out, HL2.out, e1]
  by_cases k3 : c.kd = 3
  ·have ec : cmN b c = { c with mb := (fo b c.tg).1.mb, sd := sv, ty := z.ty } := by unfold cmN; rw [if_pos k3, HSV.out, HZV.out]
   have k1 : ¬ c.kd = 1 := by omega
   simp only [ec, k3, if_true, ord, e2]
   simp
  ·have ec : cmN b c = c := by unfold cmN; rw [if_neg k3]
   simp only [ec, if_neg k3, ord, rst, Bool.or_eq_true, beq_iff_eq]
 by_cases k : c.kd < 1
 ·have f1 : decide (c.kd < 1) = true := by simpa using k
  have HV := hid (show rfs b c = 90 from by rw [RF, if_pos (.inl k)])
  clear RF k
  go_enter Try.func29, Try.ntmps29
  go_upto_region 1 with fail
  rw [HU0.out, HW.out, HRR.out]
  obtain ⟨a0, a1, a2, a3, a4, a5⟩ := HCA.out W (Below.refl _ _)
  obtain ⟨b0, b1, b2, b3, b4, b5, b6, b7, b8⟩ := HCB.out W (Below.refl _ _)
  go_wp2_with (fail)
  go_ret
  exact ⟨by rw [HV.out]; rfl, HBW.out⟩
 ·have f1 : decide (c.kd < 1) = false := by simpa using k
  by_cases k' : 3 < c.kd
  ·have f2 : decide (3 < c.kd) = true := by simpa using k'
   have HV := hid (show rfs b c = 90 from by rw [RF, if_pos (.inr k')])
   clear RF k k'
   go_enter Try.func29, Try.ntmps29
   go_upto_region 1 with fail
   rw [HU0.out, HW.out, HRR.out]
   obtain ⟨a0, a1, a2, a3, a4, a5⟩ := HCA.out W (Below.refl _ _)
   obtain ⟨b0, b1, b2, b3, b4, b5, b6, b7, b8⟩ := HCB.out W (Below.refl _ _)
   go_wp2_with (fail)
   go_ret
   exact ⟨by rw [HV.out]; rfl, HBW.out⟩
  ·clear f1
   obtain k1 | k1 | k1 : c.kd = 1 ∨ c.kd = 2 ∨ c.kd = 3 := by omega
   ·rw [k1] at HW HB HCB CK ⊢
    by_cases y0 : y = 0
    ·subst y0
     by_cases h0 : c.id ≤ d.high
     ·have h1 : decide (c.id ≤ d.high) = true := by simpa using h0
      have HV := hid (show rfs b c = 97 from by rw [RF, if_neg (by omega), if_neg (fun h => h.1 k1), if_neg (by omega), if_pos h0])
      clear RF k k' k1 h0
      go_enter Try.func29, Try.ntmps29
      go_upto_region 1 with fail
      rw [HU0.out, HW.out, HRR.out]
      obtain ⟨a0, a1, a2, a3, a4, a5⟩ := HCA.out W (Below.refl _ _)
      obtain ⟨b0, b1, b2, b3, b4, b5, b6, b7, b8⟩ := HCB.out W (Below.refl _ _)
      go_wp2_with (first | (go_at_call 31; with_reducible refine (CF.out _ HBW.out).mono ?_; rintro e w1 ⟨rfl, hb1⟩; have HB1 := hid hb1; obtain ⟨a0, a1, a2, a3, a4, a5⟩ := HCA.out w1 hb1; obtain ⟨b0, b1, b2, b3, b4, b5, b6, b7, b8⟩ := HCB.out w1 hb1; have l0 := row_lt (row_on HB.out hb1); have l1 := Nat.lt_of_succ_lt l0; clear hb1) | (go_at_call 53; with_reducible refine (CK.out _).mono ?_; rintro e w2 ⟨rfl, hb2⟩; have HB2 := hid (btr (btr HB1.out (ball _ _)) hb2); obtain ⟨a0, a1, a2, a3, a4, a5⟩ := HCA.out w2 HB2.out; obtain ⟨b0, b1, b2, b3, b4, b5, b6, b7, b8⟩ := HCB.out w2 HB2.out; have hz2 := row_on (World.alloc_heap_new w1 _) hb2; have z2 := row_cell hz2 2; have zl := row_lt hz2; have l0 := row_lt (row_on HB.out HB2.out); have l1 := Nat.lt_of_succ_lt l0; simp only [List.getElem?_toArray, List.getElem?_cons_succ, List.getElem?_cons_zero] at z2; clear hb2 hz2))
      go_ret
      exact ⟨by rw [HV.out]; rfl, btr HBW.out HB2.out⟩
     ·have h1 : decide (c.id ≤ d.high) = false := by simpa using h0
      have n3 : ¬ c.kd = 3 := by omega
      simp only [if_neg n3] at RF
      clear n3
      by_cases t1 : c.ty = 1
      ·by_cases cc : d.cap ≤ (d.o1.length : Int) + (d.o2.length : Int)
       ·have c1 : decide (d.cap ≤ (d.o1.length : Int) + (d.o2.length : Int)) = true := by simpa using cc
        rw [t1] at HW HB HCB CK ⊢
        have HV := hid (show rfs b c = 98 from by rw [RF, if_neg (by omega), if_neg (fun h => h.1 k1), if_neg (by omega), if_neg h0, if_pos ⟨k1, .inl t1, cc⟩])
        clear RF k k' k1 h0 t1 cc
        go_enter Try.func29, Try.ntmps29
        go_upto_region 1 with fail
        rw [HU0.out, HW.out, HRR.out]
        obtain ⟨a0, a1, a2, a3, a4, a5⟩ := HCA.out W (Below.refl _ _)
        obtain ⟨b0, b1, b2, b3, b4, b5, b6, b7, b8⟩ := HCB.out W (Below.refl _ _)
        go_wp2_with (first | (go_at_call 31; with_reducible refine (CF.out _ HBW.out).mono ?_; rintro e w1 ⟨rfl, hb1⟩; have HB1 := hid hb1; obtain ⟨a0, a1, a2, a3, a4, a5⟩ := HCA.out w1 hb1; obtain ⟨b0, b1, b2, b3, b4, b5, b6, b7, b8⟩ := HCB.out w1 hb1; have l0 := row_lt (row_on HB.out hb1); have l1 := Nat.lt_of_succ_lt l0; clear hb1) | (go_at_call 53; with_reducible refine (CK.out _).mono ?_; rintro e w2 ⟨rfl, hb2⟩; have HB2 := hid (btr (btr HB1.out (ball _ _)) hb2); obtain ⟨a0, a1, a2, a3, a4, a5⟩ := HCA.out w2 HB2.out; obtain ⟨b0, b1, b2, b3, b4, b5, b6, b7, b8⟩ := HCB.out w2 HB2.out; have hz2 := row_on (World.alloc_heap_new w1 _) hb2; have z2 := row_cell hz2 2; have zl := row_lt hz2; have l0 := row_lt (row_on HB.out HB2.out); have l1 := Nat.lt_of_succ_lt l0; simp only [List.getElem?_toArray, List.getElem?_cons_succ, List.getElem?_cons_zero] at z2; clear hb2 hz2))
        go_ret
        exact ⟨by rw [HV.out]; rfl, btr (btr HBW.out HB2.out) (ball _ _)⟩
       ·have c1 : decide (d.cap ≤ (d.o1.length : Int) + (d.o2.length : Int)) = false := by simpa using cc
        rw [t1] at HW HB HCB CK ⊢
        have HV := hid (show rfs b c = 0 from by rw [RF, if_neg (by omega), if_neg (fun h => h.1 k1), if_neg (by omega), if_neg h0, if_neg (fun h => cc h.2.2), if_neg (fun h => by omega)])
        clear RF k k' k1 h0 t1 cc
        go_enter Try.func29, Try.ntmps29
        go_upto_region 1 with fail
        rw [HU0.out, HW.out, HRR.out]
        obtain ⟨a0, a1, a2, a3, a4, a5⟩ := HCA.out W (Below.refl _ _)
        obtain ⟨b0, b1, b2, b3, b4, b5, b6, b7, b8⟩ := HCB.out W (Below.refl _ _)
        go_wp2_with (first | (go_at_call 31; with_reducible refine (CF.out _ HBW.out).mono ?_; rintro e w1 ⟨rfl, hb1⟩; have HB1 := hid hb1; obtain ⟨a0, a1, a2, a3, a4, a5⟩ := HCA.out w1 hb1; obtain ⟨b0, b1, b2, b3, b4, b5, b6, b7, b8⟩ := HCB.out w1 hb1; have l0 := row_lt (row_on HB.out hb1); have l1 := Nat.lt_of_succ_lt l0; clear hb1) | (go_at_call 53; with_reducible refine (CK.out _).mono ?_; rintro e w2 ⟨rfl, hb2⟩; have HB2 := hid (btr (btr HB1.out (ball _ _)) hb2); obtain ⟨a0, a1, a2, a3, a4, a5⟩ := HCA.out w2 HB2.out; obtain ⟨b0, b1, b2, b3, b4, b5, b6, b7, b8⟩ := HCB.out w2 HB2.out; have hz2 := row_on (World.alloc_heap_new w1 _) hb2; have z2 := row_cell hz2 2; have zl := row_lt hz2; have l0 := row_lt (row_on HB.out HB2.out); have l1 := Nat.lt_of_succ_lt l0; simp only [List.getElem?_toArray, List.getElem?_cons_succ, List.getElem?_cons_zero] at z2; clear hb2 hz2))
        go_ret
        exact ⟨by rw [HV.out]; rfl, btr (btr HBW.out HB2.out) (ball _ _)⟩
      ·have t1' : (c.ty == 1) = false := by simpa using t1
       by_cases t5 : c.ty = 5
       ·have MS := HSD.out rfl k1
        have CM1 := hid (fun (U : World) (hU : Below w.heap.size w U) => CM.out U hU c.ty c.pr c.sd MS)
        obtain ⟨mv, hmv⟩ : ∃ v, mtO ⟨0, 0, c.ty, c.pr, 0, 0, 0⟩ c.sd (d.os (oth c.sd)) = v := ⟨_, rfl⟩
        rw [hmv] at CM1
        rw [hmv] at RF
        clear hmv MS
        rw [t5] at HW HB HCB CK CM1 ⊢
        by_cases cc : d.cap ≤ (d.o1.length : Int) + (d.o2.length : Int)
        ·have c1 : decide (d.cap ≤ (d.o1.length : Int) + (d.o2.length : Int)) = true := by simpa using cc
         have HV := hid (show rfs b c = 98 from by rw [RF, if_neg (by omega), if_neg (fun h => h.1 k1), if_neg (by omega), if_neg h0, if_pos ⟨k1, .inr t5, cc⟩])
         clear RF k k' k1 h0 t1 t5 cc
         go_enter Try.func29, Try.ntmps29
         go_upto_region 1 with fail
         rw [HU0.out, HW.out, HRR.out]
         obtain ⟨a0, a1, a2, a3, a4, a5⟩ := HCA.out W (Below.refl _ _)
         obtain ⟨b0, b1, b2, b3, b4, b5, b6, b7, b8⟩ := HCB.out W (Below.refl _ _)
         go_wp2_with (first | (go_at_call 31; with_reducible refine (CF.out _ HBW.out).mono ?_; rintro e w1 ⟨rfl, hb1⟩; have HB1 := hid hb1; obtain ⟨a0, a1, a2, a3, a4, a5⟩ := HCA.out w1 hb1; obtain ⟨b0, b1, b2, b3, b4, b5, b6, b7, b8⟩ := HCB.out w1 hb1; have l0 := row_lt (row_on HB.out hb1); have l1 := Nat.lt_of_succ_lt l0; clear hb1) | (go_at_call 53; with_reducible refine (CK.out _).mono ?_; rintro e w2 ⟨rfl, hb2⟩; have HB2 := hid (btr (btr HB1.out (ball _ _)) hb2); obtain ⟨a0, a1, a2, a3, a4, a5⟩ := HCA.out w2 HB2.out; obtain ⟨b0, b1, b2, b3, b4, b5, b6, b7, b8⟩ := HCB.out w2 HB2.out; have hz2 := row_on (World.alloc_heap_new w1 _) hb2; have z2 := row_cell hz2 2; have zl := row_lt hz2; have l0 := row_lt (row_on HB.out HB2.out); have l1 := Nat.lt_of_succ_lt l0; simp only [List.getElem?_toArray, List.getElem?_cons_succ, List.getElem?_cons_zero] at z2; clear hb2 hz2))
         go_ret
         exact ⟨by rw [HV.out]; rfl, btr (btr HBW.out HB2.out) (ball _ _)⟩
        ·have c1 : decide (d.cap ≤ (d.o1.length : Int) + (d.o2.length : Int)) = false := by simpa using cc
         cases mv with
         | true =>
          have HV := hid (show rfs b c = 99 from by rw [RF, if_neg (by omega), if_neg (fun h => h.1 k1), if_neg (by omega), if_neg h0, if_neg (fun h => cc h.2.2), if_pos ⟨t5, rfl⟩])
          clear RF k k' k1 h0 t1 t5 cc
          go_enter Try.func29, Try.ntmps29
          go_upto_region 1 with fail
          rw [HU0.out, HW.out, HRR.out]
          obtain ⟨a0, a1, a2, a3, a4, a5⟩ := HCA.out W (Below.refl _ _)
          obtain ⟨b0, b1, b2, b3, b4, b5, b6, b7, b8⟩ := HCB.out W (Below.refl _ _)
          go_wp2_with (first | (go_at_call 31; with_reducible refine (CF.out _ HBW.out).mono ?_; rintro e w1 ⟨rfl, hb1⟩; have HB1 := hid hb1; obtain ⟨a0, a1, a2, a3, a4, a5⟩ := HCA.out w1 hb1; obtain ⟨b0, b1, b2, b3, b4, b5, b6, b7, b8⟩ := HCB.out w1 hb1; have l0 := row_lt (row_on HB.out hb1); have l1 := Nat.lt_of_succ_lt l0; clear hb1) | (go_at_call 53; with_reducible refine (CK.out _).mono ?_; rintro e w2 ⟨rfl, hb2⟩; have HB2 := hid (btr (btr HB1.out (ball _ _)) hb2); obtain ⟨a0, a1, a2, a3, a4, a5⟩ := HCA.out w2 HB2.out; obtain ⟨b0, b1, b2, b3, b4, b5, b6, b7, b8⟩ := HCB.out w2 HB2.out; have hz2 := row_on (World.alloc_heap_new w1 _) hb2; have z2 := row_cell hz2 2; have zl := row_lt hz2; have l0 := row_lt (row_on HB.out HB2.out); have l1 := Nat.lt_of_succ_lt l0; simp only [List.getElem?_toArray, List.getElem?_cons_succ, List.getElem?_cons_zero] at z2; clear hb2 hz2) | (go_at_call 54; with_reducible refine (CM1.out _ (btr (btr HBW.out HB2.out) (ball _ _))).mono ?_; rintro e w3 ⟨rfl, hb3⟩; have HB3 := hid (btr (btr (btr HBW.out HB2.out) (ball _ _)) hb3); clear hb3))
          go_ret
          exact ⟨by rw [HV.out]; rfl, HB3.out⟩
         | false =>
          have HV := hid (show rfs b c = 0 from by rw [RF, if_neg (by omega), if_neg (fun h => h.1 k1), if_neg (by omega), if_neg h0, if_neg (fun h => cc h.2.2), if_neg (fun h => by cases h.2)])
          clear RF k k' k1 h0 t1 t5 cc
          go_enter Try.func29, Try.ntmps29
          go_upto_region 1 with fail
          rw [HU0.out, HW.out, HRR.out]
          obtain ⟨a0, a1, a2, a3, a4, a5⟩ := HCA.out W (Below.refl _ _)
          obtain ⟨b0, b1, b2, b3, b4, b5, b6, b7, b8⟩ := HCB.out W (Below.refl _ _)
          go_wp2_with (first | (go_at_call 31; with_reducible refine (CF.out _ HBW.out).mono ?_; rintro e w1 ⟨rfl, hb1⟩; have HB1 := hid hb1; obtain ⟨a0, a1, a2, a3, a4, a5⟩ := HCA.out w1 hb1; obtain ⟨b0, b1, b2, b3, b4, b5, b6, b7, b8⟩ := HCB.out w1 hb1; have l0 := row_lt (row_on HB.out hb1); have l1 := Nat.lt_of_succ_lt l0; clear hb1) | (go_at_call 53; with_reducible refine (CK.out _).mono ?_; rintro e w2 ⟨rfl, hb2⟩; have HB2 := hid (btr (btr HB1.out (ball _ _)) hb2); obtain ⟨a0, a1, a2, a3, a4, a5⟩ := HCA.out w2 HB2.out; obtain ⟨b0, b1, b2, b3, b4, b5, b6, b7, b8⟩ := HCB.out w2 HB2.out; have hz2 := row_on (World.alloc_heap_new w1 _) hb2; have z2 := row_cell hz2 2; have zl := row_lt hz2; have l0 := row_lt (row_on HB.out HB2.out); have l1 := Nat.lt_of_succ_lt l0; simp only [List.getElem?_toArray, List.getElem?_cons_succ, List.getElem?_cons_zero] at z2; clear hb2 hz2) | (go_at_call 54; with_reducible refine (CM1.out _ (btr (btr HBW.out HB2.out) (ball _ _))).mono ?_; rintro e w3 ⟨rfl, hb3⟩; have HB3 := hid (btr (btr (btr HBW.out HB2.out) (ball _ _)) hb3); clear hb3))
          go_ret
          exact ⟨by rw [HV.out]; rfl, HB3.out⟩
       ·have t5' : (c.ty == 5) = false := by simpa using t5
        have HV := hid (show rfs b c = 0 from by rw [RF, if_neg (by omega), if_neg (fun h => h.1 k1), if_neg (by omega), if_neg h0, if_neg (fun h => by omega), if_neg (fun h => t5 h.1)])
        clear RF k k' k1 h0 t1 t5
        go_enter Try.func29, Try.ntmps29
        go_upto_region 1 with fail
        rw [HU0.out, HW.out, HRR.out]
        obtain ⟨a0, a1, a2, a3, a4, a5⟩ := HCA.out W (Below.refl _ _)
        obtain ⟨b0, b1, b2, b3, b4, b5, b6, b7, b8⟩ := HCB.out W (Below.refl _ _)
        go_wp2_with (first | (go_at_call 31; with_reducible refine (CF.out _ HBW.out).mono ?_; rintro e w1 ⟨rfl, hb1⟩; have HB1 := hid hb1; obtain ⟨a0, a1, a2, a3, a4, a5⟩ := HCA.out w1 hb1; obtain ⟨b0, b1, b2, b3, b4, b5, b6, b7, b8⟩ := HCB.out w1 hb1; have l0 := row_lt (row_on HB.out hb1); have l1 := Nat.lt_of_succ_lt l0; clear hb1) | (go_at_call 53; with_reducible refine (CK.out _).mono ?_; rintro e w2 ⟨rfl, hb2⟩; have HB2 := hid (btr (btr HB1.out (ball _ _)) hb2); obtain ⟨a0, a1, a2, a3, a4, a5⟩ := HCA.out w2 HB2.out; obtain ⟨b0, b1, b2, b3, b4, b5, b6, b7, b8⟩ := HCB.out w2 HB2.out; have hz2 := row_on (World.alloc_heap_new w1 _) hb2; have z2 := row_cell hz2 2; have zl := row_lt hz2; have l0 := row_lt (row_on HB.out HB2.out); have l1 := Nat.lt_of_succ_lt l0; simp only [List.getElem?_toArray, List.getElem?_cons_succ, List.getElem?_cons_zero] at z2; clear hb2 hz2))
        go_ret
        exact ⟨by rw [HV.out]; rfl, btr (btr HBW.out HB2.out) (ball _ _)⟩
    ·have y1 : (y == 0) = false := by simpa using y0
     have y2 : (y != 0) = true := by simpa using y0
     have HV := hid (show rfs b c = y from by rw [RF, if_neg (by omega), if_neg (fun h => h.1 k1), if_pos (.inl y0)])
     clear RF k k' k1 y0
     go_enter Try.func29, Try.ntmps29
     go_upto_region 1 with fail
     rw [HU0.out, HW.out, HRR.out]
     obtain ⟨a0, a1, a2, a3, a4, a5⟩ := HCA.out W (Below.refl _ _)
     obtain ⟨b0, b1, b2, b3, b4, b5, b6, b7, b8⟩ := HCB.out W (Below.refl _ _)
     go_wp2_with (first | (go_at_call 31; with_reducible refine (CF.out _ HBW.out).mono ?_; rintro e w1 ⟨rfl, hb1⟩; have HB1 := hid hb1; obtain ⟨a0, a1, a2, a3, a4, a5⟩ := HCA.out w1 hb1; obtain ⟨b0, b1, b2, b3, b4, b5, b6, b7, b8⟩ := HCB.out w1 hb1; have l0 := row_lt (row_on HB.out hb1); have l1 := Nat.lt_of_succ_lt l0; clear hb1) | (go_at_call 53; with_reducible refine (CK.out _).mono ?_; rintro e w2 ⟨rfl, hb2⟩; have HB2 := hid (btr (btr HB1.out (ball _ _)) hb2); obtain ⟨a0, a1, a2, a3, a4, a5⟩ := HCA.out w2 HB2.out; obtain ⟨b0, b1, b2, b3, b4, b5, b6, b7, b8⟩ := HCB.out w2 HB2.out; have hz2 := row_on (World.alloc_heap_new w1 _) hb2; have z2 := row_cell hz2 2; have zl := row_lt hz2; have l0 := row_lt (row_on HB.out HB2.out); have l1 := Nat.lt_of_succ_lt l0; simp only [List.getElem?_toArray, List.getElem?_cons_succ, List.getElem?_cons_zero] at z2; clear hb2 hz2))
     go_ret
     exact ⟨by rw [HV.out]; rfl, btr HBW.out HB2.out⟩
   ·rw [k1] at HW HB HCB CK ⊢
    have y0 := HY2.out k1
    subst y0
    cases tv with
    | false =>
     have HV := hid (show rfs b c = 91 from by rw [RF, if_neg (by omega), if_pos ⟨by omega, rfl⟩])
     clear RF k k' k1
     go_enter Try.func29, Try.ntmps29
     go_upto_region 1 with fail
     rw [HU0.out, HW.out, HRR.out]
     obtain ⟨a0, a1, a2, a3, a4, a5⟩ := HCA.out W (Below.refl _ _)
     obtain ⟨b0, b1, b2, b3, b4, b5, b6, b7, b8⟩ := HCB.out W (Below.refl _ _)
     go_wp2_with ((go_at_call 31; with_reducible refine (CF.out _ HBW.out).mono ?_; rintro e w1 ⟨rfl, hb1⟩; have HB1 := hid hb1; obtain ⟨a0, a1, a2, a3, a4, a5⟩ := HCA.out w1 hb1; obtain ⟨b0, b1, b2, b3, b4, b5, b6, b7, b8⟩ := HCB.out w1 hb1; have l0 := row_lt (row_on HB.out hb1); have l1 := Nat.lt_of_succ_lt l0; clear hb1))
     go_ret
     exact ⟨by rw [HV.out]; rfl, btr HBW.out (btr HB1.out (ball _ _))⟩
    | true =>
     have HV := hid (show rfs b c = 0 from by rw [RF, if_neg (by omega), if_neg (fun h => by cases h.2), if_pos (.inr k1)])
     clear RF k k' k1
     go_enter Try.func29, Try.ntmps29
     go_upto_region 1 with fail
     rw [HU0.out, HW.out, HRR.out]
     obtain ⟨a0, a1, a2, a3, a4, a5⟩ := HCA.out W (Below.refl _ _)
     obtain ⟨b0, b1, b2, b3, b4, b5, b6, b7, b8⟩ := HCB.out W (Below.refl _ _)
     go_wp2_with (first | (go_at_call 31; with_reducible refine (CF.out _ HBW.out).mono ?_; rintro e w1 ⟨rfl, hb1⟩; have HB1 := hid hb1; obtain ⟨a0, a1, a2, a3, a4, a5⟩ := HCA.out w1 hb1; obtain ⟨b0, b1, b2, b3, b4, b5, b6, b7, b8⟩ := HCB.out w1 hb1; have l0 := row_lt (row_on HB.out hb1); have l1 := Nat.lt_of_succ_lt l0; clear hb1) | (go_at_call 53; with_reducible refine (CK.out _).mono ?_; rintro e w2 ⟨rfl, hb2⟩; have HB2 := hid (btr (btr HB1.out (ball _ _)) hb2); obtain ⟨a0, a1, a2, a3, a4, a5⟩ := HCA.out w2 HB2.out; obtain ⟨b0, b1, b2, b3, b4, b5, b6, b7, b8⟩ := HCB.out w2 HB2.out; have hz2 := row_on (World.alloc_heap_new w1 _) hb2; have z2 := row_cell hz2 2; have zl := row_lt hz2; have l0 := row_lt (row_on HB.out HB2.out); have l1 := Nat.lt_of_succ_lt l0; simp only [List.getElem?_toArray, List.getElem?_cons_succ, List.getElem?_cons_zero] at z2; clear hb2 hz2))
     go_ret
     exact ⟨by rw [HV.out]; rfl, btr HBW.out HB2.out⟩
   ·rw [k1] at HW HB HCB CK ⊢
    simp only [if_pos k1] at RF
    cases tv with
    | false =>
     have HV := hid (show rfs b c = 91 from by rw [RF, if_neg (by omega), if_pos ⟨by omega, rfl⟩])
     clear RF k k' k1
     go_enter Try.func29, Try.ntmps29
     go_upto_region 1 with fail
     rw [HU0.out, HW.out, HRR.out]
     obtain ⟨a0, a1, a2, a3, a4, a5⟩ := HCA.out W (Below.refl _ _)
     obtain ⟨b0, b1, b2, b3, b4, b5, b6, b7, b8⟩ := HCB.out W (Below.refl _ _)
     go_wp2_with ((go_at_call 31; with_reducible refine (CF.out _ HBW.out).mono ?_; rintro e w1 ⟨rfl, hb1⟩; have HB1 := hid hb1; obtain ⟨a0, a1, a2, a3, a4, a5⟩ := HCA.out w1 hb1; obtain ⟨b0, b1, b2, b3, b4, b5, b6, b7, b8⟩ := HCB.out w1 hb1; have l0 := row_lt (row_on HB.out hb1); have l1 := Nat.lt_of_succ_lt l0; clear hb1))
     go_ret
     exact ⟨by rw [HV.out]; rfl, btr HBW.out (btr HB1.out (ball _ _))⟩
    | true =>
     by_cases y0 : y = 0
     ·subst y0
      by_cases h0 : c.id ≤ d.high
      ·have h1 : decide (c.id ≤ d.high) = true := by simpa using h0
       have HV := hid (show rfs b c = 97 from by rw [RF, if_neg (by omega), if_neg (fun h => by cases h.2), if_neg (by omega), if_pos h0])
       clear RF k k' k1 h0
       go_enter Try.func29, Try.ntmps29
       go_upto_region 1 with fail
       rw [HU0.out, HW.out, HRR.out]
       obtain ⟨a0, a1, a2, a3, a4, a5⟩ := HCA.out W (Below.refl _ _)
       obtain ⟨b0, b1, b2, b3, b4, b5, b6, b7, b8⟩ := HCB.out W (Below.refl _ _)
       go_wp2_with (first | (go_at_call 31; with_reducible refine (CF.out _ HBW.out).mono ?_; rintro e w1 ⟨rfl, hb1⟩; have HB1 := hid hb1; obtain ⟨a0, a1, a2, a3, a4, a5⟩ := HCA.out w1 hb1; obtain ⟨b0, b1, b2, b3, b4, b5, b6, b7, b8⟩ := HCB.out w1 hb1; have l0 := row_lt (row_on HB.out hb1); have l1 := Nat.lt_of_succ_lt l0; clear hb1) | (go_at_call 53; with_reducible refine (CK.out _).mono ?_; rintro e w2 ⟨rfl, hb2⟩; have HB2 := hid (btr (btr HB1.out (ball _ _)) hb2); obtain ⟨a0, a1, a2, a3, a4, a5⟩ := HCA.out w2 HB2.out; obtain ⟨b0, b1, b2, b3, b4, b5, b6, b7, b8⟩ := HCB.out w2 HB2.out; have hz2 := row_on (World.alloc_heap_new w1 _) hb2; have z2 := row_cell hz2 2; have zl := row_lt hz2; have l0 := row_lt (row_on HB.out HB2.out); have l1 := Nat.lt_of_succ_lt l0; simp only [List.getElem?_toArray, List.getElem?_cons_succ, List.getElem?_cons_zero] at z2; clear hb2 hz2))
       go_ret
       exact ⟨by rw [HV.out]; rfl, btr HBW.out HB2.out⟩
      ·have h1 : decide (c.id ≤ d.high) = false := by simpa using h0
       have MS : sv = 1 ∨ sv = 2 := by have := HFS.out HTV.out; rw [HSV.out] at this; exact this
       have CM1 := hid (fun (U : World) (hU : Below w.heap.size w U) => CM.out U hU z.ty c.pr sv MS)
       obtain ⟨mv, hmv⟩ : ∃ v, mtO ⟨0, 0, z.ty, c.pr, 0, 0, 0⟩ sv (d.os (oth sv)) = v := ⟨_, rfl⟩
       rw [hmv] at CM1
       rw [hmv] at RF
       clear hmv MS
       by_cases t5 : z.ty = 5
       ·have t5' : (z.ty == 5) = true := by simpa using t5
        cases mv with
        | true =>
         have HV := hid (show rfs b c = 99 from by rw [RF, if_neg (by omega), if_neg (fun h => by cases h.2), if_neg (by omega), if_neg h0, if_neg (fun h => by omega), if_pos ⟨t5, rfl⟩])
         clear RF k k' k1 h0 t5
         go_enter Try.func29, Try.ntmps29
         go_upto_region 1 with fail
         rw [HU0.out, HW.out, HRR.out]
         obtain ⟨a0, a1, a2, a3, a4, a5⟩ := HCA.out W (Below.refl _ _)
         obtain ⟨b0, b1, b2, b3, b4, b5, b6, b7, b8⟩ := HCB.out W (Below.refl _ _)
         go_upto_region 13 with (first | (go_at_call 31; with_reducible refine (CF.out _ HBW.out).mono ?_; rintro e w1 ⟨rfl, hb1⟩; have HB1 := hid hb1; obtain ⟨a0, a1, a2, a3, a4, a5⟩ := HCA.out w1 hb1; obtain ⟨b0, b1, b2, b3, b4, b5, b6, b7, b8⟩ := HCB.out w1 hb1; have l0 := row_lt (row_on HB.out hb1); have l1 := Nat.lt_of_succ_lt l0; clear hb1) | (go_at_call 53; with_reducible refine (CK.out _).mono ?_; rintro e w2 ⟨rfl, hb2⟩; have HB2 := hid (btr (btr HB1.out (ball _ _)) hb2); obtain ⟨a0, a1, a2, a3, a4, a5⟩ := HCA.out w2 HB2.out; obtain ⟨b0, b1, b2, b3, b4, b5, b6, b7, b8⟩ := HCB.out w2 HB2.out; have hz2 := row_on (World.alloc_heap_new w1 _) hb2; have z2 := row_cell hz2 2; have zl := row_lt hz2; have l0 := row_lt (row_on HB.out HB2.out); have l1 := Nat.lt_of_succ_lt l0; simp only [List.getElem?_toArray, List.getElem?_cons_succ, List.getElem?_cons_zero] at z2; clear hb2 hz2))
         go_region
         go_wp2_with ((go_at_call 54; with_reducible refine (CM1.out _ (btr (btr HBW.out HB2.out) (btr (ball _ _) (bdrew1 _)))).mono ?_; rintro e w3 ⟨rfl, hb3⟩; have HB3 := hid (btr (btr (btr HBW.out HB2.out) (btr (ball _ _) (bdrew1 _))) hb3); clear hb3))
         go_ret
         exact ⟨by rw [HV.out]; rfl, HB3.out⟩
        | false =>
         have HV := hid (show rfs b c = 0 from by rw [RF, if_neg (by omega), if_neg (fun h => by cases h.2), if_neg (by omega), if_neg h0, if_neg (fun h => by omega), if_neg (fun h => by cases h.2)])
         clear RF k k' k1 h0 t5
         go_enter Try.func29, Try.ntmps29
         go_upto_region 1 with fail
         rw [HU0.out, HW.out, HRR.out]
         obtain ⟨a0, a1, a2, a3, a4, a5⟩ := HCA.out W (Below.refl _ _)
         obtain ⟨b0, b1, b2, b3, b4, b5, b6, b7, b8⟩ := HCB.out W (Below.refl _ _)
         go_upto_region 13 with (first | (go_at_call 31; with_reducible refine (CF.out _ HBW.out).mono ?_; rintro e w1 ⟨rfl, hb1⟩; have HB1 := hid hb1; obtain ⟨a0, a1, a2, a3, a4, a5⟩ := HCA.out w1 hb1; obtain ⟨b0, b1, b2, b3, b4, b5, b6, b7, b8⟩ := HCB.out w1 hb1; have l0 := row_lt (row_on HB.out hb1); have l1 := Nat.lt_of_succ_lt l0; clear hb1) | (go_at_call 53; with_reducible refine (CK.out _).mono ?_; rintro e w2 ⟨rfl, hb2⟩; have HB2 := hid (btr (btr HB1.out (ball _ _)) hb2); obtain ⟨a0, a1, a2, a3, a4, a5⟩ := HCA.out w2 HB2.out; obtain ⟨b0, b1, b2, b3, b4, b5, b6, b7, b8⟩ := HCB.out w2 HB2.out; have hz2 := row_on (World.alloc_heap_new w1 _) hb2; have z2 := row_cell hz2 2; have zl := row_lt hz2; have l0 := row_lt (row_on HB.out HB2.out); have l1 := Nat.lt_of_succ_lt l0; simp only [List.getElem?_toArray, List.getElem?_cons_succ, List.getElem?_cons_zero] at z2; clear hb2 hz2))
         go_region
         go_wp2_with ((go_at_call 54; with_reducible refine (CM1.out _ (btr (btr HBW.out HB2.out) (btr (ball _ _) (bdrew1 _)))).mono ?_; rintro e w3 ⟨rfl, hb3⟩; have HB3 := hid (btr (btr (btr HBW.out HB2.out) (btr (ball _ _) (bdrew1 _))) hb3); clear hb3))
         go_ret
         exact ⟨by rw [HV.out]; rfl, HB3.out⟩
       ·have t5' : (z.ty == 5) = false := by simpa using t5
        have HV := hid (show rfs b c = 0 from by rw [RF, if_neg (by omega), if_neg (fun h => by cases h.2), if_neg (by omega), if_neg h0, if_neg (fun h => by omega), if_neg (fun h => t5 h.1)])
        clear RF k k' k1 h0 t5
        go_enter Try.func29, Try.ntmps29
        go_upto_region 1 with fail
        rw [HU0.out, HW.out, HRR.out]
        obtain ⟨a0, a1, a2, a3, a4, a5⟩ := HCA.out W (Below.refl _ _)
        obtain ⟨b0, b1, b2, b3, b4, b5, b6, b7, b8⟩ := HCB.out W (Below.refl _ _)
        go_upto_region 13 with (first | (go_at_call 31; with_reducible refine (CF.out _ HBW.out).mono ?_; rintro e w1 ⟨rfl, hb1⟩; have HB1 := hid hb1; obtain ⟨a0, a1, a2, a3, a4, a5⟩ := HCA.out w1 hb1; obtain ⟨b0, b1, b2, b3, b4, b5, b6, b7, b8⟩ := HCB.out w1 hb1; have l0 := row_lt (row_on HB.out hb1); have l1 := Nat.lt_of_succ_lt l0; clear hb1) | (go_at_call 53; with_reducible refine (CK.out _).mono ?_; rintro e w2 ⟨rfl, hb2⟩; have HB2 := hid (btr (btr HB1.out (ball _ _)) hb2); obtain ⟨a0, a1, a2, a3, a4, a5⟩ := HCA.out w2 HB2.out; obtain ⟨b0, b1, b2, b3, b4, b5, b6, b7, b8⟩ := HCB.out w2 HB2.out; have hz2 := row_on (World.alloc_heap_new w1 _) hb2; have z2 := row_cell hz2 2; have zl := row_lt hz2; have l0 := row_lt (row_on HB.out HB2.out); have l1 := Nat.lt_of_succ_lt l0; simp only [List.getElem?_toArray, List.getElem?_cons_succ, List.getElem?_cons_zero] at z2; clear hb2 hz2))
        go_region
        go_wp2_with (fail)
        go_ret
        exact ⟨by rw [HV.out]; rfl, btr (btr HBW.out HB2.out) (btr (ball _ _) (bdrew1 _))⟩
     ·have y1 : (y == 0) = false := by simpa using y0
      have y2 : (y != 0) = true := by simpa using y0
      have HV := hid (show rfs b c = y from by rw [RF, if_neg (by omega), if_neg (fun h => by cases h.2), if_pos (.inl y0)])
      clear RF k k' k1 y0
      go_enter Try.func29, Try.ntmps29
      go_upto_region 1 with fail
      rw [HU0.out, HW.out, HRR.out]
      obtain ⟨a0, a1, a2, a3, a4, a5⟩ := HCA.out W (Below.refl _ _)
      obtain ⟨b0, b1, b2, b3, b4, b5, b6, b7, b8⟩ := HCB.out W (Below.refl _ _)
      go_wp2_with (first | (go_at_call 31; with_reducible refine (CF.out _ HBW.out).mono ?_; rintro e w1 ⟨rfl, hb1⟩; have HB1 := hid hb1; obtain ⟨a0, a1, a2, a3, a4, a5⟩ := HCA.out w1 hb1; obtain ⟨b0, b1, b2, b3, b4, b5, b6, b7, b8⟩ := HCB.out w1 hb1; have l0 := row_lt (row_on HB.out hb1); have l1 := Nat.lt_of_succ_lt l0; clear hb1) | (go_at_call 53; with_reducible refine (CK.out _).mono ?_; rintro e w2 ⟨rfl, hb2⟩; have HB2 := hid (btr (btr HB1.out (ball _ _)) hb2); obtain ⟨a0, a1, a2, a3, a4, a5⟩ := HCA.out w2 HB2.out; obtain ⟨b0, b1, b2, b3, b4, b5, b6, b7, b8⟩ := HCB.out w2 HB2.out; have hz2 := row_on (World.alloc_heap_new w1 _) hb2; have z2 := row_cell hz2 2; have zl := row_lt hz2; have l0 := row_lt (row_on HB.out HB2.out); have l1 := Nat.lt_of_succ_lt l0; simp only [List.getElem?_toArray, List.getElem?_cons_succ, List.getElem?_cons_zero] at z2; clear hb2 hz2))
      go_ret
      exact ⟨by rw [HV.out]; rfl, btr HBW.out HB2.out⟩
end Go.Proofs.Ytalgndgoedlpoaa
