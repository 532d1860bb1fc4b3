/-
  RuRe RuRg
-/
import Derived.Test.YtalgndgoedlpoaaRuRc
namespace Go.Proofs.Ytalgndgoedlpoaa
section
open Go.RowKit Go.Deep Go.Shelf
set_option linter.unusedVariables false
set_option linter.unusedSimpArgs false
set_option maxHeartbeats 4000000
set_option maxRecDepth 100000
/-- a book of the document's. -/
structure Db where
 cap : Int
 meet : Int
 p1 : Option Addr
 c1 : Nat
 o1 : List Or
 p2 : Option Addr
 c2 : Nat
 o2 : List Or
 high : Int
 seq : Int
def Db.row (d : Db) : Array Value := #[.int .i64 d.cap, .int .i64 d.meet, .slice d.p1 d.o1.length d.c1, .slice d.p2 d.o2.length d.c2, .int .u64 d.high, .int .u64 d.seq]
def Db.os (d : Db) (s : Int) : List Or := if s = 1 then d.o1 else d.o2
def Db.ps (d : Db) (s : Int) : Option Addr := if s = 1 then d.p1 else d.p2
def Db.cs (d : Db) (s : Int) : Nat := if s = 1 then d.c1 else d.c2
def Db.put (d : Db) (s : Int) (p : Option Addr) (c : Nat) (os : List Or) : Db := if s = 1 then { d with p1 := p, c1 := c, o1 := os } else { d with p2 := p, c2 := c, o2 := os }
structure Dm (w : World) (d : Db) : Prop where
 r1 : Rw w (.slice d.p1 d.o1.length d.c1) d.o1
 r2 : Rw w (.slice d.p2 d.o2.length d.c2) d.o2
 l1 : d.o1.length ≤ 1048576
 l2 : d.o2.length ≤ 1048576
theorem Dm.on {w w' : World} {d : Db} (h : Dm w d) (hb : Below w.heap.size w w') : Dm w' d := ⟨h.r1.on hb, h.r2.on hb, h.l1, h.l2⟩
theorem Dm.at' {w : World} {d : Db} (h : Dm w d) (s : Int) : Rw w (.slice (d.ps s) (d.os s).length (d.cs s)) (d.os s) ∧ (d.os s).length ≤ 1048576 := by
 unfold Db.ps Db.os Db.cs
 split
 ·exact ⟨h.r1, h.l1⟩
 ·exact ⟨h.r2, h.l2⟩
theorem Dm.put {w : World} {d : Db} (h : Dm w d) {s : Int} {p : Option Addr} {c : Nat} {os : List Or} (hr : Rw w (.slice p os.length c) os) (hl : os.length ≤ 1048576) : Dm w (d.put s p c os) := by
 unfold Db.put
 split
 ·exact ⟨hr, h.r2, hl, h.l2⟩
 ·exact ⟨h.r1, hr, h.l1, hl⟩
theorem sideD_any (d : Db) (s : Int) (hs : s = 1 ∨ s = 2) (w : World) : Calls Try.prog 34 #[.agg d.row, .int .i64 s] w fun e w' => e = .returned (.slice (d.ps s) (d.os s).length (d.cs s)) ∧ Below w.heap.size w w' := by
 refine (dside_any d.cap d.meet d.p1 d.p2 d.o1.length d.o2.length d.c1 d.c2 d.high d.seq s hs w).mono ?_
 rintro e w' ⟨rfl, hb⟩
 refine ⟨?_, hb⟩
 rcases hs with rfl | rfl <;> rfl
theorem withD_any (d : Db) (s : Int) (p : Option Addr) (c : Nat) (os : List Or) (w : World) : Calls Try.prog 32 #[.agg d.row, .int .i64 s, .slice p os.length c] w fun e w' => e = .returned (.agg (d.put s p c os).row) ∧ Below w.heap.size w w' := by
 refine (dwith_any d.cap d.meet d.high d.seq s w d.p1 d.p2 p d.o1.length d.o2.length os.length d.c1 d.c2 c).mono ?_
 rintro e w' ⟨rfl, hb⟩
 refine ⟨?_, hb⟩
 unfold Db.put
 split <;> rfl
/-- what comes, as the document has it. -/
def cmg (o : Or) (s q : Int) : Array Value := #[.int .u64 o.id, .int .u64 q, .int .u64 o.pk, .int .u32 o.mb, .int .i64 s, .int .i64 o.ty, .int .i64 o.pr]
def mtO (o : Or) (s : Int) : List Or → Bool
 | [] => false
 | x :: _ => rch o s x.pr
theorem row7 {w : World} {g : Nat} {t : TypeId} {a0 a1 a2 a3 a4 a5 a6 : Value} (h : w.heap[g]? = some (.cells #[a0, a1, a2, a3, a4, a5, a6] t (0, 0))) : w.cell? ⟨g, 0, none⟩ = some a0 ∧ w.cell? ⟨g, 1, none⟩ = some a1 ∧ w.cell? ⟨g, 2, none⟩ = some a2 ∧ w.cell? ⟨g, 3, none⟩ = some a3 ∧ w.cell? ⟨g, 4, none⟩ = some a4 ∧ w.cell? ⟨g, 5, none⟩ = some a5 ∧ w.cell? ⟨g, 6, none⟩ = some a6 :=
 ⟨row_cell h 0, row_cell h 1, row_cell h 2, row_cell h 3, row_cell h 4, row_cell h 5, row_cell h 6⟩
theorem oth_wrap {s : Int} (hs : s = 1 ∨ s = 2) : IntKind.i64.wrap (3 - s) = oth s := by
 rcases hs with rfl | rfl <;> rfl
theorem dmeets_any (d : Db) (o : Or) (s q : Int) (hs : s = 1 ∨ s = 2) (w : World) (h : Dm w d) :
  Calls Try.prog 54 #[.agg d.row, .agg (cmg o s q)] w fun e w' => e = .returned (.bool (mtO o s (d.os (oth s)))) ∧ Below w.heap.size w w' := by
 have hos := oth_side hs
 obtain ⟨hrw, hlen⟩ := h.at' (oth s)
 have CS := hid (fun U => sideD_any d (oth s) hos U)
 have HZ := hid (rw_osz hrw)
 obtain ⟨os, hoe⟩ : ∃ os, d.os (oth s) = os := ⟨_, rfl⟩
 obtain ⟨p, hp⟩ : ∃ p, d.ps (oth s) = p := ⟨_, rfl⟩
 obtain ⟨c, hc⟩ : ∃ c, d.cs (oth s) = c := ⟨_, rfl⟩
 rw [hoe, hp, hc] at CS
 rw [hoe, hp] at HZ
 rw [hoe] at hlen ⊢
 clear hoe hp hc hrw h
 have ho := oth_wrap hs
 obtain ⟨t, ht⟩ : ∃ t, oth s = t := ⟨_, rfl⟩
 rw [ht] at CS ho
 clear ht hos
 obtain ⟨R, hR⟩ : ∃ R, w.heap.size = R := ⟨_, rfl⟩
 obtain ⟨U0, hU0⟩ : ∃ U, w.alloc (.cells d.row 32) = U := ⟨_, rfl⟩
 obtain ⟨W, hW⟩ : ∃ U, U0.alloc (.cells (cmg o s q) 78) = U := ⟨_, rfl⟩
 have s0 : U0.heap.size = R + 1 := by rw [← hU0, ← hR]; simp
 have hbW : Below w.heap.size w W := by rw [← hW, ← hU0]; exact btr (ball _ _) (ball _ _)
 have hA : W.heap[R]? = some (.cells d.row 32 (0, 0)) := by rw [← hW]; exact row_on (by rw [← hU0, ← hR]; exact World.alloc_heap_new _ _) (ball _ _)
 have hB : W.heap[R + 1]? = some (.cells (cmg o s q) 78 (0, 0)) := by rw [← hW, ← s0]; exact World.alloc_heap_new _ _
 have HU0 := hid hU0
 have HW := hid hW
 have HRR := hid hR
 have HBW := hid hbW
 have HA := hid hA
 have HB := hid hB
 unfold Db.row at CS HU0 HA
 unfold cmg at HW HB
 have HCA := hid (fun (U : World) (hU : Below W.heap.size W U) => row6 (row_on HA.out hU))
 have HCB := hid (fun (U : World) (hU : Below W.heap.size W U) => row7 (row_on HB.out hU))
 clear hR hU0 hW s0 hbW hA hB
 unfold Db.row cmg
 cases os with
 | nil =>
  go_enter Try.func54, Try.ntmps54
  go_upto_region 1 with fail
  rw [HU0.out, HW.out, HRR.out]
  obtain ⟨a0, a1, a2, a3, a4, a5⟩ := HCA.out W (Below.refl _ _)
  obtain ⟨b0, b1, b2, b3, b4, b5, b6⟩ := HCB.out W (Below.refl _ _)
  go_wp2_with (go_at_call 34; with_reducible refine (CS.out _).mono ?_; rintro e w1 ⟨rfl, hb1⟩; have HB1 := hid hb1; clear hb1)
  go_ret
  exact ⟨rfl, btr HBW.out HB1.out⟩
 | cons x r =>
  have HC0 := hid (fun (U : World) (hU : Below w.heap.size w U) => osz_cells HZ.out hU (i := 0) (by simp))
  obtain ⟨g, off, hpe, _⟩ := HC0.out w (Below.refl _ _)
  subst hpe
  have HC3 := hid (fun (U : World) (hU : Below w.heap.size w U) => (show U.cell? ⟨g, off + 3, none⟩ = some (.int .i64 x.pr) from by
   obtain ⟨g', off', he, _, _, _, h3, _⟩ := HC0.out U hU
   injection he with he
   injection he with e1 e2 _
   subst e1
   subst e2
   simpa using h3))
  obtain ⟨n, hn⟩ : ∃ n, (x :: r).length = n := ⟨_, rfl⟩
  rw [hn] at CS hlen
  have hn0 : 0 < n := by rw [← hn]; simp
  have hn1 : (0 : Int) < (n : Int) := by omega
  have hn2 : ((n : Int) == 0) = false := by
   have : (n : Int) ≠ 0 := by omega
   simpa using this
  clear hn HC0
  show Calls Try.prog 54 _ w fun e w' => e = .returned (.bool (rch o s x.pr)) ∧ Below w.heap.size w w'
  go_enter Try.func54, Try.ntmps54
  go_upto_region 1 with fail
  rw [HU0.out, HW.out, HRR.out]
  obtain ⟨a0, a1, a2, a3, a4, a5⟩ := HCA.out W (Below.refl _ _)
  obtain ⟨b0, b1, b2, b3, b4, b5, b6⟩ := HCB.out W (Below.refl _ _)
  go_upto_region 4 with (go_at_call 34; with_reducible refine (CS.out _).mono ?_; rintro e w1 ⟨rfl, hb1⟩; have HB1 := hid hb1; clear hb1)
  clear a0 a1 a2 a3 a4 a5 b0 b1 b2 b3 b4 b5 b6
  obtain ⟨b0, b1, b2, b3, b4, b5, b6⟩ := HCB.out w1 HB1.out
  have c3 := HC3.out w1 (btr HBW.out HB1.out)
  have HBE := hid (btr HBW.out HB1.out)
  by_cases hty : o.ty = 2
  ·rw [hty] at b5
   have HR := hid (show rch o s x.pr = true from by unfold rch; rw [hty]; rfl)
   clear hty
   go_quiet (fail)
   go_wp2
   go_ret
   exact ⟨by rw [HR.out]; rfl, btr HBE.out (bdrew _ _)⟩
  ·have hty' : (o.ty == 2) = false := by simpa using hty
   have HR := hid (show rch o s x.pr = !btt s x.pr o.pr from by unfold rch; rw [hty']; rfl)
   clear hty
   by_cases hpe : x.pr = o.pr
   ·rw [hpe] at c3
    have HBB := hid (show (!btt s x.pr o.pr) = true from by
     rw [hpe]
     unfold btt
     split <;> simp)
    clear hpe
    go_quiet (fail)
    go_wp2
    go_ret
    exact ⟨by rw [HR.out, HBB.out]; rfl, btr HBE.out (bdrew _ _)⟩
   ·have hpe' : (x.pr == o.pr) = false := by simpa using hpe
    have HPE := hid hpe
    clear hpe
    rcases hs with rfl | rfl
    ·go_quiet (fail)
     go_upto_region 7 with fail
     go_quiet (fail)
     go_wp2
     go_ret
     refine ⟨?_, btr HBE.out (btr (bdrew _ _) (bdrew _ _))⟩
     have := HPE.out
     have e : (!btt 1 x.pr o.pr) = decide (x.pr < o.pr) := by
      unfold btt
      rw [if_pos rfl, Bool.eq_iff_iff]
      simp
      omega
     rw [HR.out, e]
     rfl
    ·go_quiet (fail)
     go_upto_region 8 with fail
     go_quiet (fail)
     go_wp2
     go_ret
     refine ⟨?_, btr HBE.out (btr (bdrew _ _) (bdrew _ _))⟩
     have := HPE.out
     have e : (!btt 2 x.pr o.pr) = decide (o.pr < x.pr) := by
      unfold btt
      rw [if_neg (by decide), Bool.eq_iff_iff]
      simp
      omega
     rw [HR.out, e]
     rfl
end
section
open Go.RowKit Go.Deep Go.Shelf
set_option linter.unusedVariables false
set_option linter.unusedSimpArgs false
set_option maxHeartbeats 4000000
set_option maxRecDepth 100000
def am (c : Cm) (k : Int) : Int :=
 if c.pr < 0 ∨ 262144 ≤ c.pr ∨ (k = 2 ∧ c.pr ≠ 0) then 94
 else if c.qt < 1 ∨ 4294967295 < c.qt then 95
 else if c.qt < c.pk ∨ (c.pk ≠ 0 ∧ ((k ≠ 1 ∧ k ≠ 5) ∨ 256 * c.pk < c.qt)) then 96
 else if c.id = 0 then 97
 else 0
theorem amounts_any (c : Cm) (k : Int) (w : World) (hc : CmOk c) : Calls Try.prog 67 #[.agg (cmr c), .int .i64 k] w fun e w' => e = .returned (.int .i64 (am c k)) ∧ Below w.heap.size w w' := by
 have hp0 := hc.pk0
 have hq0 := hc.qt0
 unfold cmr
 by_cases h1 : c.pr < 0
 ·have bh1 : decide (c.pr < 0) = true := by simpa using h1
  have HAM := hid (show am c k = 94 from by unfold am; rw [if_pos (by omega)])
  clear hc hp0 hq0 h1
  go_enter Try.func67, Try.ntmps67
  go_wp2
  go_ret
  exact ⟨by rw [HAM.out]; rfl, ball _ _⟩
 ·have bh1 : decide (c.pr < 0) = false := by simpa using h1
  by_cases h2 : 262144 ≤ c.pr
  ·have bh2 : decide (262144 ≤ c.pr) = true := by simpa using h2
   have HAM := hid (show am c k = 94 from by unfold am; rw [if_pos (by omega)])
   clear hc hp0 hq0 h1 h2
   go_enter Try.func67, Try.ntmps67
   go_wp2
   go_ret
   exact ⟨by rw [HAM.out]; rfl, ball _ _⟩
  ·have bh2 : decide (262144 ≤ c.pr) = false := by simpa using h2
   by_cases h3 : k = 2
   ·subst h3
    by_cases h4 : c.pr = 0
    ·rw [h4]
     skip
     by_cases h5 : c.qt < 1
     ·have bh5 : decide (c.qt < 1) = true := by simpa using h5
      have HAM := hid (show am c 2 = 95 from by unfold am; rw [if_neg (by omega), if_pos (by omega)])
      clear hc hp0 hq0 h1 h2 h4 h5
      go_enter Try.func67, Try.ntmps67
      go_wp2
      go_ret
      exact ⟨by rw [HAM.out]; rfl, ball _ _⟩
     ·have bh5 : decide (c.qt < 1) = false := by simpa using h5
      by_cases h6 : 4294967295 < c.qt
      ·have bh6 : decide (4294967295 < c.qt) = true := by simpa using h6
       have HAM := hid (show am c 2 = 95 from by unfold am; rw [if_neg (by omega), if_pos (by omega)])
       clear hc hp0 hq0 h1 h2 h4 h5 h6
       go_enter Try.func67, Try.ntmps67
       go_wp2
       go_ret
       exact ⟨by rw [HAM.out]; rfl, ball _ _⟩
      ·have bh6 : decide (4294967295 < c.qt) = false := by simpa using h6
       by_cases h7 : c.qt < c.pk
       ·have bh7 : decide (c.qt < c.pk) = true := by simpa using h7
        have HAM := hid (show am c 2 = 96 from by unfold am; rw [if_neg (by omega), if_neg (by omega), if_pos (by omega)])
        clear hc hp0 hq0 h1 h2 h4 h5 h6 h7
        go_enter Try.func67, Try.ntmps67
        go_wp2
        go_ret
        exact ⟨by rw [HAM.out]; rfl, ball _ _⟩
       ·have bh7 : decide (c.qt < c.pk) = false := by simpa using h7
        by_cases h8 : c.pk = 0
        ·rw [h8]
         have bz : decide (c.qt < 0) = false := by simp; omega
         by_cases h9 : c.id = 0
         ·rw [h9]
          skip
          have HAM := hid (show am c 2 = 97 from by unfold am; rw [if_neg (by omega), if_neg (by omega), if_neg (by omega), if_pos (by omega)])
          clear hc hp0 hq0 h1 h2 h4 h5 h6 h7 h8 h9
          go_enter Try.func67, Try.ntmps67
          go_wp2
          go_ret
          exact ⟨by rw [HAM.out]; rfl, ball _ _⟩
         ·have bh9 : (c.id == 0) = false := by simpa using h9
          have nh9 : (c.id != 0) = true := by simpa using h9
          have HAM := hid (show am c 2 = 0 from by unfold am; rw [if_neg (by omega), if_neg (by omega), if_neg (by omega), if_neg (by omega)])
          clear hc hp0 hq0 h1 h2 h4 h5 h6 h7 h8 h9
          go_enter Try.func67, Try.ntmps67
          go_wp2
          go_ret
          exact ⟨by rw [HAM.out]; rfl, ball _ _⟩
        ·have bh8 : (c.pk == 0) = false := by simpa using h8
         have nh8 : (c.pk != 0) = true := by simpa using h8
         have HAM := hid (show am c 2 = 96 from by unfold am; rw [if_neg (by omega), if_neg (by omega), if_pos (by omega)])
         clear hc hp0 hq0 h1 h2 h4 h5 h6 h7 h8
         go_enter Try.func67, Try.ntmps67
         go_wp2
         go_ret
         exact ⟨by rw [HAM.out]; rfl, ball _ _⟩
    ·have bh4 : (c.pr == 0) = false := by simpa using h4
     have nh4 : (c.pr != 0) = true := by simpa using h4
     have HAM := hid (show am c 2 = 94 from by unfold am; rw [if_pos (by omega)])
     clear hc hp0 hq0 h1 h2 h4
     go_enter Try.func67, Try.ntmps67
     go_wp2
     go_ret
     exact ⟨by rw [HAM.out]; rfl, ball _ _⟩
   ·have bh3 : (k == 2) = false := by simpa using h3
    have nh3 : (k != 2) = true := by simpa using h3
    by_cases h10 : c.qt < 1
    ·have bh10 : decide (c.qt < 1) = true := by simpa using h10
     have HAM := hid (show am c k = 95 from by unfold am; rw [if_neg (by omega), if_pos (by omega)])
     clear hc hp0 hq0 h1 h2 h3 h10
     go_enter Try.func67, Try.ntmps67
     go_wp2
     go_ret
     exact ⟨by rw [HAM.out]; rfl, ball _ _⟩
    ·have bh10 : decide (c.qt < 1) = false := by simpa using h10
     by_cases h11 : 4294967295 < c.qt
     ·have bh11 : decide (4294967295 < c.qt) = true := by simpa using h11
      have HAM := hid (show am c k = 95 from by unfold am; rw [if_neg (by omega), if_pos (by omega)])
      clear hc hp0 hq0 h1 h2 h3 h10 h11
      go_enter Try.func67, Try.ntmps67
      go_wp2
      go_ret
      exact ⟨by rw [HAM.out]; rfl, ball _ _⟩
     ·have bh11 : decide (4294967295 < c.qt) = false := by simpa using h11
      by_cases h12 : c.qt < c.pk
      ·have bh12 : decide (c.qt < c.pk) = true := by simpa using h12
       have HAM := hid (show am c k = 96 from by unfold am; rw [if_neg (by omega), if_neg (by omega), if_pos (by omega)])
       clear hc hp0 hq0 h1 h2 h3 h10 h11 h12
       go_enter Try.func67, Try.ntmps67
       go_wp2
       go_ret
       exact ⟨by rw [HAM.out]; rfl, ball _ _⟩
      ·have bh12 : decide (c.qt < c.pk) = false := by simpa using h12
       by_cases h13 : c.pk = 0
       ·rw [h13]
        have bz : decide (c.qt < 0) = false := by simp; omega
        by_cases h14 : c.id = 0
        ·rw [h14]
         skip
         have HAM := hid (show am c k = 97 from by unfold am; rw [if_neg (by omega), if_neg (by omega), if_neg (by omega), if_pos (by omega)])
         clear hc hp0 hq0 h1 h2 h3 h10 h11 h12 h13 h14
         go_enter Try.func67, Try.ntmps67
         go_wp2
         go_ret
         exact ⟨by rw [HAM.out]; rfl, ball _ _⟩
        ·have bh14 : (c.id == 0) = false := by simpa using h14
         have nh14 : (c.id != 0) = true := by simpa using h14
         have HAM := hid (show am c k = 0 from by unfold am; rw [if_neg (by omega), if_neg (by omega), if_neg (by omega), if_neg (by omega)])
         clear hc hp0 hq0 h1 h2 h3 h10 h11 h12 h13 h14
         go_enter Try.func67, Try.ntmps67
         go_wp2
         go_ret
         exact ⟨by rw [HAM.out]; rfl, ball _ _⟩
       ·have bh13 : (c.pk == 0) = false := by simpa using h13
        have nh13 : (c.pk != 0) = true := by simpa using h13
        by_cases h15 : k = 1
        ·subst h15
         have hw : IntKind.u64.wrap (256 * c.pk) = 256 * c.pk := by rw [IntKind.wrap_u64]; omega
         by_cases h16 : 256 * c.pk < c.qt
         ·have bh16 : decide (256 * c.pk < c.qt) = true := by simpa using h16
          have HAM := hid (show am c 1 = 96 from by unfold am; rw [if_neg (by omega), if_neg (by omega), if_pos (by omega)])
          clear hc hp0 hq0 h1 h2 h3 h10 h11 h12 h13 h16
          go_enter Try.func67, Try.ntmps67
          go_wp2
          go_ret
          exact ⟨by rw [HAM.out]; rfl, ball _ _⟩
         ·have bh16 : decide (256 * c.pk < c.qt) = false := by simpa using h16
          by_cases h17 : c.id = 0
          ·rw [h17]
           skip
           have HAM := hid (show am c 1 = 97 from by unfold am; rw [if_neg (by omega), if_neg (by omega), if_neg (by omega), if_pos (by omega)])
           clear hc hp0 hq0 h1 h2 h3 h10 h11 h12 h13 h16 h17
           go_enter Try.func67, Try.ntmps67
           go_wp2
           go_ret
           exact ⟨by rw [HAM.out]; rfl, ball _ _⟩
          ·have bh17 : (c.id == 0) = false := by simpa using h17
           have nh17 : (c.id != 0) = true := by simpa using h17
           have HAM := hid (show am c 1 = 0 from by unfold am; rw [if_neg (by omega), if_neg (by omega), if_neg (by omega), if_neg (by omega)])
           clear hc hp0 hq0 h1 h2 h3 h10 h11 h12 h13 h16 h17
           go_enter Try.func67, Try.ntmps67
           go_wp2
           go_ret
           exact ⟨by rw [HAM.out]; rfl, ball _ _⟩
        ·have bh15 : (k == 1) = false := by simpa using h15
         have nh15 : (k != 1) = true := by simpa using h15
         by_cases h18 : k = 5
         ·subst h18
          have hw : IntKind.u64.wrap (256 * c.pk) = 256 * c.pk := by rw [IntKind.wrap_u64]; omega
          by_cases h19 : 256 * c.pk < c.qt
          ·have bh19 : decide (256 * c.pk < c.qt) = true := by simpa using h19
           have HAM := hid (show am c 5 = 96 from by unfold am; rw [if_neg (by omega), if_neg (by omega), if_pos (by omega)])
           clear hc hp0 hq0 h1 h2 h3 h10 h11 h12 h13 h15 h19
           go_enter Try.func67, Try.ntmps67
           go_wp2
           go_ret
           exact ⟨by rw [HAM.out]; rfl, ball _ _⟩
          ·have bh19 : decide (256 * c.pk < c.qt) = false := by simpa using h19
           by_cases h20 : c.id = 0
           ·rw [h20]
            skip
            have HAM := hid (show am c 5 = 97 from by unfold am; rw [if_neg (by omega), if_neg (by omega), if_neg (by omega), if_pos (by omega)])
            clear hc hp0 hq0 h1 h2 h3 h10 h11 h12 h13 h15 h19 h20
            go_enter Try.func67, Try.ntmps67
            go_wp2
            go_ret
            exact ⟨by rw [HAM.out]; rfl, ball _ _⟩
           ·have bh20 : (c.id == 0) = false := by simpa using h20
            have nh20 : (c.id != 0) = true := by simpa using h20
            have HAM := hid (show am c 5 = 0 from by unfold am; rw [if_neg (by omega), if_neg (by omega), if_neg (by omega), if_neg (by omega)])
            clear hc hp0 hq0 h1 h2 h3 h10 h11 h12 h13 h15 h19 h20
            go_enter Try.func67, Try.ntmps67
            go_wp2
            go_ret
            exact ⟨by rw [HAM.out]; rfl, ball _ _⟩
         ·have bh18 : (k == 5) = false := by simpa using h18
          have nh18 : (k != 5) = true := by simpa using h18
          have HAM := hid (show am c k = 96 from by unfold am; rw [if_neg (by omega), if_neg (by omega), if_pos (by omega)])
          clear hc hp0 hq0 h1 h2 h3 h10 h11 h12 h13 h15 h18
          go_enter Try.func67, Try.ntmps67
          go_wp2
          go_ret
          exact ⟨by rw [HAM.out]; rfl, ball _ _⟩
theorem chk_am {c : Cm} : chk c = if c.kd = 2 then 0 else if c.kd = 3 then am c 1 else if c.kd = 1 then (if c.sd ≠ 1 ∧ c.sd ≠ 2 then 92 else if c.ty < 1 ∨ 5 < c.ty then 93 else am c c.ty) else 90 := by
 have key : ∀ c : Cm, isSd c.sd = true → ¬ (c.ty < 1 ∨ 5 < c.ty) → chO c = am c c.ty := by
  intro c h1 h2
  unfold chO am
  rw [if_neg (by rw [h1]; decide), if_neg h2]
  have hp : (isPr c.pr = false) ↔ (c.pr < 0 ∨ 262144 ≤ c.pr) := by
   unfold isPr
   simp only [Bool.and_eq_false_iff, decide_eq_false_iff_not]
   omega
  have hk : (pkF c = false) ↔ (¬ (c.ty = 1 ∨ c.ty = 5) ∨ c.qt < c.pk ∨ 256 * c.pk < c.qt) := by
   unfold pkF rst
   simp only [Bool.and_eq_false_iff, decide_eq_false_iff_not, Bool.or_eq_false_iff, beq_eq_false_iff_ne]
   omega
  simp only [hp, hk]
  by_cases a1 : c.pr < 0 ∨ 262144 ≤ c.pr ∨ (c.ty = 2 ∧ c.pr ≠ 0)
  ·rw [if_pos a1, if_pos (by omega)]
  ·rw [if_neg a1, if_neg (by omega)]
   by_cases a2 : c.qt < 1 ∨ 4294967295 < c.qt
   ·rw [if_pos a2, if_pos a2]
   ·rw [if_neg a2, if_neg a2]
    by_cases a3 : c.qt < c.pk ∨ (c.pk ≠ 0 ∧ ((c.ty ≠ 1 ∧ c.ty ≠ 5) ∨ 256 * c.pk < c.qt))
    ·rw [if_pos a3, if_pos (by omega)]
    ·rw [if_neg a3, if_neg (by omega)]
 unfold chk
 by_cases k1 : c.kd = 1
 ·have k2 : ¬ c.kd = 2 := by omega
  have k3 : ¬ c.kd = 3 := by omega
  simp only [if_pos k1, if_neg k2, if_neg k3]
  by_cases s1 : c.sd ≠ 1 ∧ c.sd ≠ 2
  ·rw [if_pos s1]
   unfold chO
   rw [if_pos (by unfold isSd; simp [s1])]
  ·rw [if_neg s1]
   have hs : isSd c.sd = true := by
    unfold isSd
    simp
    omega
   by_cases t1 : c.ty < 1 ∨ 5 < c.ty
   ·rw [if_pos t1]
    unfold chO
    rw [if_neg (by rw [hs]; decide), if_pos t1]
   ·rw [if_neg t1]
    exact key c hs t1
 ·by_cases k3 : c.kd = 3
  ·have k2 : ¬ c.kd = 2 := by omega
   simp only [if_neg k1, if_pos k3, if_neg k2]
   exact key { c with sd := 1, ty := 1 } rfl (by show ¬ ((1 : Int) < 1 ∨ (5 : Int) < 1); omega)
  ·by_cases k2 : c.kd = 2
   ·simp only [if_neg k1, if_neg k3, if_pos k2]
   ·simp only [if_neg k1, if_neg k3, if_neg k2]
theorem dcheck_any (c : Cm) (w : World) (hc : CmOk c) : Calls Try.prog 53 #[.agg (cmr c)] w fun e w' => e = .returned (.int .i64 (chk c)) ∧ Below w.heap.size w w' := by
 have C1 := hid (fun U => amounts_any c 1 U hc)
 have C2 := hid (fun U => amounts_any c c.ty U hc)
 rw [chk_am]
 obtain ⟨v1, hv1⟩ : ∃ v, am c 1 = v := ⟨_, rfl⟩
 obtain ⟨v2, hv2⟩ : ∃ v, am c c.ty = v := ⟨_, rfl⟩
 rw [hv1] at C1 ⊢
 rw [hv2] at C2 ⊢
 clear hv1 hv2 hc
 unfold cmr at C1 C2 ⊢
 by_cases k2 : c.kd = 2
 ·rw [if_pos k2, k2]
  clear k2
  go_enter Try.func53, Try.ntmps53
  go_wp2
  go_ret
  exact ⟨rfl, ball _ _⟩
 ·rw [if_neg k2]
  have k2' : (c.kd == 2) = false := by simpa using k2
  by_cases k3 : c.kd = 3
  ·rw [if_pos k3]
   rw [k3] at C1 ⊢
   clear k2 k3 k2'
   go_enter Try.func53, Try.ntmps53
   go_wp2_with (go_at_call 67; with_reducible refine (C1.out _).mono ?_; rintro e w1 ⟨rfl, hb1⟩; have HB1 := hid hb1; clear hb1)
   go_ret
   exact ⟨rfl, btr (ball _ _) HB1.out⟩
  ·rw [if_neg k3]
   have k3' : (c.kd == 3) = false := by simpa using k3
   by_cases k1 : c.kd = 1
   ·rw [if_pos k1]
    rw [k1] at C2 ⊢
    clear k2 k3 k1 k2' k3'
    by_cases s1 : c.sd = 1
    ·rw [if_neg (by omega)]
     rw [s1] at C2 ⊢
     by_cases t1 : c.ty < 1
     ·rw [if_pos (by omega)]
      have t1' : decide (c.ty < 1) = true := by simpa using t1
      clear t1 s1
      go_enter Try.func53, Try.ntmps53
      go_wp2
      go_ret
      exact ⟨rfl, ball _ _⟩
     ·have t1' : decide (c.ty < 1) = false := by simpa using t1
      by_cases t2 : 5 < c.ty
      ·rw [if_pos (by omega)]
       have t2' : decide (5 < c.ty) = true := by simpa using t2
       clear t1 t2 s1
       go_enter Try.func53, Try.ntmps53
       go_wp2
       go_ret
       exact ⟨rfl, ball _ _⟩
      ·rw [if_neg (by omega)]
       have t2' : decide (5 < c.ty) = false := by simpa using t2
       clear t1 t2 s1
       go_enter Try.func53, Try.ntmps53
       go_wp2_with (go_at_call 67; with_reducible refine (C2.out _).mono ?_; rintro e w1 ⟨rfl, hb1⟩; have HB1 := hid hb1; clear hb1)
       go_ret
       exact ⟨rfl, btr (ball _ _) HB1.out⟩
    ·by_cases s2 : c.sd = 2
     ·rw [if_neg (by omega)]
      rw [s2] at C2 ⊢
      clear s1
      by_cases t1 : c.ty < 1
      ·rw [if_pos (by omega)]
       have t1' : decide (c.ty < 1) = true := by simpa using t1
       clear t1 s2
       go_enter Try.func53, Try.ntmps53
       go_wp2
       go_ret
       exact ⟨rfl, ball _ _⟩
      ·have t1' : decide (c.ty < 1) = false := by simpa using t1
       by_cases t2 : 5 < c.ty
       ·rw [if_pos (by omega)]
        have t2' : decide (5 < c.ty) = true := by simpa using t2
        clear t1 t2 s2
        go_enter Try.func53, Try.ntmps53
        go_wp2
        go_ret
        exact ⟨rfl, ball _ _⟩
       ·rw [if_neg (by omega)]
        have t2' : decide (5 < c.ty) = false := by simpa using t2
        clear t1 t2 s2
        go_enter Try.func53, Try.ntmps53
        go_wp2_with (go_at_call 67; with_reducible refine (C2.out _).mono ?_; rintro e w1 ⟨rfl, hb1⟩; have HB1 := hid hb1; clear hb1)
        go_ret
        exact ⟨rfl, btr (ball _ _) HB1.out⟩
     ·rw [if_pos ⟨s1, s2⟩]
      have s1' : (c.sd == 1) = false := by simpa using s1
      have s2' : (c.sd == 2) = false := by simpa using s2
      have s1n : (c.sd != 1) = true := by simpa using s1
      have s2n : (c.sd != 2) = true := by simpa using s2
      clear s1 s2
      go_enter Try.func53, Try.ntmps53
      go_wp2
      go_ret
      exact ⟨rfl, ball _ _⟩
   ·rw [if_neg k1]
    have k1' : (c.kd == 1) = false := by simpa using k1
    clear k1 k2 k3
    go_enter Try.func53, Try.ntmps53
    go_wp2
    go_ret
    exact ⟨rfl, ball _ _⟩
end
end Go.Proofs.Ytalgndgoedlpoaa
