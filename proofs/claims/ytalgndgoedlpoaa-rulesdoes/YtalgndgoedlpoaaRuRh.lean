/-
  RuRh
-/
import Derived.Test.YtalgndgoedlpoaaRuRg
namespace Go.Proofs.Ytalgndgoedlpoaa
open Go.RowKit Go.Deep Go.Shelf
set_option linter.unusedVariables false
set_option linter.unusedSimpArgs false
set_option maxHeartbeats 8000000
set_option maxRecDepth 100000
/-- where the order of an ID stands, or -1. -/
def fnO (id : Int) : List Or → Int
 | [] => -1
 | x :: l => if x.id = id then 0 else if fnO id l = -1 then -1 else fnO id l + 1
theorem fnO_osl (id : Int) : ∀ l : LO, fnO id (osl l) = fnd id l
 | [] => rfl
 | x :: l => by
  show (if x.2.id = id then 0 else if fnO id (osl l) = -1 then -1 else fnO id (osl l) + 1) = fnd id (x :: l)
  rw [fnO_osl id l]
  rfl
theorem fnO_ge (id : Int) : ∀ l : List Or, -1 ≤ fnO id l ∧ fnO id l < l.length := by
 intro l
 induction l with
 | nil => simp [fnO]
 | cons x l ih => unfold fnO; simp only [List.length_cons]; split; omega; split <;> omega
theorem fnO_none {id : Int} : ∀ {l : List Or}, (∀ j (h : j < l.length), (l[j]).id ≠ id) → fnO id l = -1
 | [], _ => rfl
 | x :: l, h => by
  unfold fnO
  rw [if_neg (by have := h 0 (by simp); simpa using this), if_pos (fnO_none (fun j hj => by have := h (j + 1) (by simpa using hj); simpa using this))]
theorem fnO_at {id : Int} : ∀ {l : List Or} {i : Nat} (hi : i < l.length), (∀ j (h : j < l.length), j < i → (l[j]).id ≠ id) → (l[i]).id = id → fnO id l = i
 | x :: l, 0, hi, _, h => by unfold fnO; rw [if_pos (by simpa using h)]; rfl
 | x :: l, i + 1, hi, ha, h => by
  unfold fnO
  have e := fnO_at (l := l) (i := i) (by simpa using hi) (fun j hj hji => by have := ha (j + 1) (by simpa using hj) (by omega); simpa using this) (by simpa using h)
  rw [if_neg (by have := ha 0 (by simp) (by omega); simpa using this), e, if_neg (by omega)]
  omega
/-- what Find tells. -/
def Db.fo (d : Db) (id : Int) : Or × Int × Bool :=
 if h : 0 ≤ fnO id d.o1 then (d.o1[(fnO id d.o1).toNat]'(by have := fnO_ge id d.o1; omega), 1, true)
 else if h : 0 ≤ fnO id d.o2 then (d.o2[(fnO id d.o2).toNat]'(by have := fnO_ge id d.o2; omega), 2, true)
 else (oz, 0, false)
theorem fo1_eq {d : Db} {id : Int} {k : Nat} (h : fnO id d.o1 = k) (hk : k < d.o1.length) : d.fo id = (d.o1[k], 1, true) := by
 have e : (fnO id d.o1).toNat = k := by omega
 unfold Db.fo
 rw [dif_pos (by omega)]
 simp only [e]
theorem fo2_eq {d : Db} {id : Int} {k : Nat} (h1 : fnO id d.o1 = -1) (h : fnO id d.o2 = k) (hk : k < d.o2.length) : d.fo id = (d.o2[k], 2, true) := by
 have e : (fnO id d.o2).toNat = k := by omega
 unfold Db.fo
 rw [dif_neg (by omega), dif_pos (by omega)]
 simp only [e]
theorem fo0_eq {d : Db} {id : Int} (h1 : fnO id d.o1 = -1) (h2 : fnO id d.o2 = -1) : d.fo id = (oz, 0, false) := by
 unfold Db.fo
 rw [dif_neg (by omega), dif_neg (by omega)]
theorem res_ctt {P : Program} {fn : Func} {p q r : Tmp} {ty : TypeId} (h : fn.results = #[.cell p ty, .tmp q, .tmp r]) (tmps : Array Value) (w : World) (g : Nat) (t : TypeId) (cs : Array Value) (fr : Nat × Nat) (d : TypeDesc) (v u : Value)
  (hp : tmps.getD p undef = .pointer (some ⟨g, 0, none⟩)) (hq : tmps.getD q undef = v) (hr : tmps.getD r undef = u) (hg : w.heap[g]? = some (.cells cs t fr))
  (hu : P.underlying ty = some d) (hd : (match d with | .struct _ | .array _ _ => true | _ => false) = true) (hi : (P.info? ty).map (·.size) = some cs.size) :
  (results fn tmps).run P w = .ok (.tuple #[.agg cs, v, u]) w := by
 have hp' : tmps[p]?.getD undef = .pointer (some ⟨g, 0, none⟩) := by simpa using hp
 have hq' : tmps[q]?.getD undef = v := by simpa using hq
 have hr' : tmps[r]?.getD undef = u := by simpa using hr
 simp [results, h, hp', hq', hr', asAddr, run_loadVar_row w g t ty cs fr d hg hu hd hi]
theorem dfind_any (d : Db) (id : Int) (w : World) (h : Dm w d) :
  Calls Try.prog 31 #[.agg d.row, .int .u64 id] w fun e w' => e = .returned (.tuple #[.agg (orow (d.fo id).1), .int .i64 (d.fo id).2.1, .bool (d.fo id).2.2]) ∧ Below w.heap.size w w' := by
 have CS1 := hid (fun U => sideD_any d 1 (.inl rfl) U)
 have CS2 := hid (fun U => sideD_any d 2 (.inr rfl) U)
 have H1 := hid (rw_osz h.r1)
 have H2 := hid (rw_osz h.r2)
 have hn1 := h.l1
 have hn2 := h.l2
 have x1 : d.os 1 = d.o1 ∧ d.ps 1 = d.p1 ∧ d.cs 1 = d.c1 := ⟨rfl, rfl, rfl⟩
 have x2 : d.os 2 = d.o2 ∧ d.ps 2 = d.p2 ∧ d.cs 2 = d.c2 := ⟨rfl, rfl, rfl⟩
 rw [x1.1, x1.2.1, x1.2.2] at CS1
 rw [x2.1, x2.2.1, x2.2.2] at CS2
 clear x1 x2 h
 obtain ⟨n1, e1⟩ : ∃ n, d.o1.length = n := ⟨_, rfl⟩
 obtain ⟨n2, e2⟩ : ∃ n, d.o2.length = n := ⟨_, rfl⟩
 have HN1 := hid e1
 have HN2 := hid e2
 obtain ⟨R, hR⟩ : ∃ R, w.heap.size = R := ⟨_, rfl⟩
 obtain ⟨U0, hU0⟩ : ∃ U, w.alloc (.cells d.row 32) = U := ⟨_, rfl⟩
 obtain ⟨W, hW⟩ : ∃ U, U0.alloc (.cells #[.int .u64 0, .int .u32 0, .int .i64 0, .int .i64 0, .int .u64 0, .int .u64 0, .int .u64 0] 50) = U := ⟨_, rfl⟩
 have s0 : U0.heap.size = R + 1 := by rw [← hU0, ← hR]; simp
 have hbW : Below w.heap.size w W := by rw [← hW, ← hU0]; exact btr (ball _ _) (ball _ _)
 have hA : W.heap[R]? = some (.cells d.row 32 (0, 0)) := by rw [← hW]; exact row_on (by rw [← hU0, ← hR]; exact World.alloc_heap_new _ _) (ball _ _)
 have hB : W.heap[R + 1]? = some (.cells #[.int .u64 0, .int .u32 0, .int .i64 0, .int .i64 0, .int .u64 0, .int .u64 0, .int .u64 0] 50 (0, 0)) := by rw [← hW, ← s0]; exact World.alloc_heap_new _ _
 have HU0 := hid hU0
 have HW := hid hW
 have HRR := hid hR
 have HBW := hid hbW
 have HA := hid hA
 have HB := hid hB
 unfold Db.row at HU0 HA CS1 CS2
 have HCA := hid (fun (U : World) (hU : Below W.heap.size W U) => row6 (row_on HA.out hU))
 unfold Db.row
 rw [e1] at HU0 HCA CS1 CS2 hn1 ⊢
 rw [e2] at HU0 HCA CS1 CS2 hn2 ⊢
 clear hR hU0 hW s0 hbW hA hB e1 e2 HA
 go_enter Try.func31, Try.ntmps31
 go_upto_region 1 with fail
 rw [HU0.out, HW.out, HRR.out]
 go_wp2_with fail
 go_loopw [7] (fun iv wr => ∃ i : Nat, 1 ≤ i ∧ i ≤ 3 ∧ iv = .int .i64 i ∧ Hid ((2 ≤ i → fnO id d.o1 = -1) ∧ (3 ≤ i → fnO id d.o2 = -1)) ∧ Hid (Below W.heap.size W wr)) (fun iv _ => 3 - (intOf iv).toNat)
 case atStart => exact ⟨1, Nat.le_refl _, by omega, rfl, hid ⟨fun h => by omega, fun h => by omega⟩, hid (Below.refl _ _)⟩
 case round =>
  obtain ⟨i, hi1, hin, rfl, HF, HBR⟩ := hrel
  obtain ⟨a0, a1, a2, a3, a4, a5⟩ := HCA.out wr HBR.out
  obtain rfl | rfl | rfl : i = 1 ∨ i = 2 ∨ i = 3 := by omega
  ·go_wp2_with (go_at_call 34; with_reducible refine (CS1.out _).mono ?_; rintro e w1 ⟨rfl, hb1⟩; have HB1 := hid (btr HBR.out hb1); clear hb1)
   clear a0 a1 a2 a3 a4 a5
   go_loopw [9] (fun jv wr' => ∃ j : Nat, j ≤ n1 ∧ jv = .int .i64 j ∧ Hid (∀ a (ha : a < d.o1.length), a < j → (d.o1[a]).id ≠ id) ∧ Hid (Below W.heap.size W wr')) (fun jv _ => n1 - (intOf jv).toNat)
   case atStart => exact ⟨0, Nat.zero_le _, rfl, hid (fun a ha h => by omega), HB1⟩
   case round =>
    obtain ⟨j, hjn, rfl, HJ, HBJ⟩ := hrel
    by_cases hjl : j < n1
    ·have hje : j < d.o1.length := by rw [HN1.out]; exact hjl
     obtain ⟨g, o, hp, d0, d1, d2, d3, d4, d5, d6⟩ := osz_cells H1.out (btr HBW.out HBJ.out) hje
     obtain ⟨pp, hpp⟩ : ∃ pp, d.p1 = pp := ⟨_, rfl⟩
     rw [hpp] at hp ⊢
     subst hp
     obtain ⟨z, hz⟩ : ∃ z, d.o1[j] = z := ⟨_, rfl⟩
     rw [hz] at d0 d1 d2 d3 d4 d5 d6
     have HZ := hid hz
     have j0' : (0 : Int) ≤ (j : Int) := by omega
     have j1 : (j : Int) < (n1 : Int) := by omega
     clear hz hpp
     by_cases he : z.id = id
     ·have he' : (z.id == id) = true := by simpa using he
      have HE := hid he
      have HBX := hid (row_on HB.out HBJ.out)
      have AI := hid (show (Try.prog.info? 50).map (·.size) = some (#[.int .u64 z.id, .int .u32 z.mb, .int .i64 z.ty, .int .i64 z.pr, .int .u64 z.vi, .int .u64 z.hi, .int .u64 z.pk] : Array Value).size from info50)
      have AS := hid (show (#[.int .u64 0, .int .u32 0, .int .i64 0, .int .i64 0, .int .u64 0, .int .u64 0, .int .u64 0] : Array Value).size = (#[.int .u64 z.id, .int .u32 z.mb, .int .i64 z.ty, .int .i64 z.pr, .int .u64 z.vi, .int .u64 z.hi, .int .u64 z.pk] : Array Value).size from rfl)
      have AA := hid (show (#[.int .u64 z.id, .int .u32 z.mb, .int .i64 z.ty, .int .i64 z.pr, .int .u64 z.vi, .int .u64 z.hi, .int .u64 z.pk] : Array Value).all (·.oneCell') = true from by simp [Value.oneCell'])
      clear he
      go_wp2_with (refine wpList_store_row (by rfl) 50 (.tmp 4) (.tmp 33) (by rfl) (R + 1) #[.int .u64 z.id, .int .u32 z.mb, .int .i64 z.ty, .int .i64 z.pr, .int .u64 z.vi, .int .u64 z.hi, .int .u64 z.pk] (by rfl) (by rfl) 50 _ HBX.out AI.out AS.out AA.out ?_)
      refine bodyPost_ret (res_ctt Try.results31 _ _ (R + 1) 50 #[.int .u64 z.id, .int .u32 z.mb, .int .i64 z.ty, .int .i64 z.pr, .int .u64 z.vi, .int .u64 z.hi, .int .u64 z.pk] (0, 0) _ (.int .i64 1) (.bool true) (by rfl) (by rfl) (by rfl) (setRow_heap _ _ _ _ 50 (0, 0) HBX.out) Try.underlying50 rfl info50) rfl ⟨?_, setRow_below (btr HBW.out HBJ.out) (by have := HRR.out; omega)⟩
      have hkk := fnO_at hje HJ.out (by rw [HZ.out]; exact HE.out)
      rw [fo1_eq hkk hje, HZ.out]
      rfl
     ·have he' : (z.id == id) = false := by simpa using he
      have HE := hid he
      clear he
      go_wp2
      go_roundw
      case rel =>
       refine ⟨j + 1, by omega, by go_num, hid (fun a ha hl => ?_), HBJ⟩
       by_cases hja : a = j
       ·subst hja; rw [HZ.out]; exact HE.out
       ·exact HJ.out a ha (by omega)
      case measure => simp [intOf]; omega
    ·obtain rfl : j = n1 := by omega
     have HM1 := hid (fnO_none (fun a ha => HJ.out a ha (by rw [← HN1.out]; exact ha)))
     go_wp2
     go_roundw
     case rel => exact ⟨2, by omega, by omega, by go_num, hid ⟨fun _ => HM1.out, fun h => by omega⟩, HBJ⟩
     case measure => simp [intOf]
  ·go_wp2_with (go_at_call 34; with_reducible refine (CS2.out _).mono ?_; rintro e w1 ⟨rfl, hb1⟩; have HB1 := hid (btr HBR.out hb1); clear hb1)
   clear a0 a1 a2 a3 a4 a5
   go_loopw [9] (fun jv wr' => ∃ j : Nat, j ≤ n2 ∧ jv = .int .i64 j ∧ Hid (∀ a (ha : a < d.o2.length), a < j → (d.o2[a]).id ≠ id) ∧ Hid (Below W.heap.size W wr')) (fun jv _ => n2 - (intOf jv).toNat)
   case atStart => exact ⟨0, Nat.zero_le _, rfl, hid (fun a ha h => by omega), HB1⟩
   case round =>
    obtain ⟨j, hjn, rfl, HJ, HBJ⟩ := hrel
    by_cases hjl : j < n2
    ·have hje : j < d.o2.length := by rw [HN2.out]; exact hjl
     obtain ⟨g, o, hp, d0, d1, d2, d3, d4, d5, d6⟩ := osz_cells H2.out (btr HBW.out HBJ.out) hje
     obtain ⟨pp, hpp⟩ : ∃ pp, d.p2 = pp := ⟨_, rfl⟩
     rw [hpp] at hp ⊢
     subst hp
     obtain ⟨z, hz⟩ : ∃ z, d.o2[j] = z := ⟨_, rfl⟩
     rw [hz] at d0 d1 d2 d3 d4 d5 d6
     have HZ := hid hz
     have j0' : (0 : Int) ≤ (j : Int) := by omega
     have j1 : (j : Int) < (n2 : Int) := by omega
     clear hz hpp
     by_cases he : z.id = id
     ·have he' : (z.id == id) = true := by simpa using he
      have HE := hid he
      have HBX := hid (row_on HB.out HBJ.out)
      have AI := hid (show (Try.prog.info? 50).map (·.size) = some (#[.int .u64 z.id, .int .u32 z.mb, .int .i64 z.ty, .int .i64 z.pr, .int .u64 z.vi, .int .u64 z.hi, .int .u64 z.pk] : Array Value).size from info50)
      have AS := hid (show (#[.int .u64 0, .int .u32 0, .int .i64 0, .int .i64 0, .int .u64 0, .int .u64 0, .int .u64 0] : Array Value).size = (#[.int .u64 z.id, .int .u32 z.mb, .int .i64 z.ty, .int .i64 z.pr, .int .u64 z.vi, .int .u64 z.hi, .int .u64 z.pk] : Array Value).size from rfl)
      have AA := hid (show (#[.int .u64 z.id, .int .u32 z.mb, .int .i64 z.ty, .int .i64 z.pr, .int .u64 z.vi, .int .u64 z.hi, .int .u64 z.pk] : Array Value).all (·.oneCell') = true from by simp [Value.oneCell'])
      clear he
      go_wp2_with (refine wpList_store_row (by rfl) 50 (.tmp 4) (.tmp 33) (by rfl) (R + 1) #[.int .u64 z.id, .int .u32 z.mb, .int .i64 z.ty, .int .i64 z.pr, .int .u64 z.vi, .int .u64 z.hi, .int .u64 z.pk] (by rfl) (by rfl) 50 _ HBX.out AI.out AS.out AA.out ?_)
      refine bodyPost_ret (res_ctt Try.results31 _ _ (R + 1) 50 #[.int .u64 z.id, .int .u32 z.mb, .int .i64 z.ty, .int .i64 z.pr, .int .u64 z.vi, .int .u64 z.hi, .int .u64 z.pk] (0, 0) _ (.int .i64 2) (.bool true) (by rfl) (by rfl) (by rfl) (setRow_heap _ _ _ _ 50 (0, 0) HBX.out) Try.underlying50 rfl info50) rfl ⟨?_, setRow_below (btr HBW.out HBJ.out) (by have := HRR.out; omega)⟩
      have hkk := fnO_at hje HJ.out (by rw [HZ.out]; exact HE.out)
      rw [fo2_eq (HF.out.1 (by omega)) hkk hje, HZ.out]
      rfl
     ·have he' : (z.id == id) = false := by simpa using he
      have HE := hid he
      clear he
      go_wp2
      go_roundw
      case rel =>
       refine ⟨j + 1, by omega, by go_num, hid (fun a ha hl => ?_), HBJ⟩
       by_cases hja : a = j
       ·subst hja; rw [HZ.out]; exact HE.out
       ·exact HJ.out a ha (by omega)
      case measure => simp [intOf]; omega
    ·obtain rfl : j = n2 := by omega
     have HM1 := hid (fnO_none (fun a ha => HJ.out a ha (by rw [← HN2.out]; exact ha)))
     go_wp2
     go_roundw
     case rel => exact ⟨3, by omega, by omega, by go_num, hid ⟨fun _ => HF.out.1 (by omega), fun _ => HM1.out⟩, HBJ⟩
     case measure => simp [intOf]
  ·have HBX := hid (row_on HB.out HBR.out)
   have AI0 := hid (show (Try.prog.info? 50).map (·.size) = some (#[.int .u64 0, .int .u32 0, .int .i64 0, .int .i64 0, .int .u64 0, .int .u64 0, .int .u64 0] : Array Value).size from info50)
   have AS0 := hid (show (#[.int .u64 0, .int .u32 0, .int .i64 0, .int .i64 0, .int .u64 0, .int .u64 0, .int .u64 0] : Array Value).size = (#[.int .u64 0, .int .u32 0, .int .i64 0, .int .i64 0, .int .u64 0, .int .u64 0, .int .u64 0] : Array Value).size from rfl)
   have AA0 := hid (show (#[.int .u64 0, .int .u32 0, .int .i64 0, .int .i64 0, .int .u64 0, .int .u64 0, .int .u64 0] : Array Value).all (·.oneCell') = true from by simp [Value.oneCell'])
   go_wp2_with (refine wpList_store_row (by rfl) 50 (.tmp 4) (.tmp 35) (by rfl) (R + 1) #[.int .u64 0, .int .u32 0, .int .i64 0, .int .i64 0, .int .u64 0, .int .u64 0, .int .u64 0] (by rfl) (by rfl) 50 _ HBX.out AI0.out AS0.out AA0.out ?_)
   refine bodyPost_ret (res_ctt Try.results31 _ _ (R + 1) 50 #[.int .u64 0, .int .u32 0, .int .i64 0, .int .i64 0, .int .u64 0, .int .u64 0, .int .u64 0] (0, 0) _ (.int .i64 0) (.bool false) (by rfl) (by rfl) (by rfl) (setRow_heap _ _ _ _ 50 (0, 0) HBX.out) Try.underlying50 rfl info50) rfl ⟨?_, setRow_below (btr HBW.out HBR.out) (by have := HRR.out; omega)⟩
   rw [fo0_eq (HF.out.1 (by omega)) (HF.out.2 (by omega))]
   rfl
/-- two events compared. -/
theorem devents_same (p p2 : Option Addr) (c c2 : Nat) (es : List Ev) (w : World) (h : w.ownsRow 0 58 13 (.slice p es.length c) es.length (evs es)) (h2 : w.ownsRow 0 58 13 (.slice p2 es.length c2) es.length (evs es)) :
  Calls Try.prog 12 #[.slice p es.length c, .slice p2 es.length c2] w fun e w' => e = .returned (.bool true) ∧ Below w.heap.size w w' := by
 obtain ⟨n, hn⟩ : ∃ n, es.length = n := ⟨_, rfl⟩
 have HN := hid hn
 have H1 := hid h
 have H2 := hid h2
 rw [hn]
 clear hn h h2
 go_enter Try.func12, Try.ntmps12
 go_wp2_with fail
 go_loopw [5] (fun iv wr => ∃ i : Nat, i ≤ n ∧ iv = .int .i64 i ∧ Hid (Below w.heap.size w wr)) (fun iv _ => n - (intOf iv).toNat)
 case atStart => exact ⟨0, Nat.zero_le _, rfl, hid (Below.refl _ _)⟩
 case round =>
  obtain ⟨i, hin, rfl, HB⟩ := hrel
  by_cases hlt : i < n
  ·have hil : i < es.length := by rw [HN.out]; exact hlt
   obtain ⟨g, cc, hp, hmx, _, a⟩ := ev_cells (own_on H1.out HB.out) hil
   obtain ⟨g2, cc2, hp2, _, _, b⟩ := ev_cells (own_on H2.out HB.out) hil
   have e1 := (Value.slice.inj hp).1
   have e2 := (Value.slice.inj hp2).1
   subst e1
   subst e2
   rw [HN.out] at hmx
   have hmx' : n < 9223372036854775808 := by unfold maxLen at hmx; omega
   obtain ⟨z, hz⟩ : ∃ z, es[i] = z := ⟨_, rfl⟩
   rw [hz] at a b
   have a0 := a 0 (by omega)
   have b0 := b 0 (by omega)
   have a1 := a 1 (by omega)
   have b1 := b 1 (by omega)
   have a2 := a 2 (by omega)
   have b2 := b 2 (by omega)
   have a3 := a 3 (by omega)
   have b3 := b 3 (by omega)
   have a4 := a 4 (by omega)
   have b4 := b 4 (by omega)
   have a5 := a 5 (by omega)
   have b5 := b 5 (by omega)
   have a6 := a 6 (by omega)
   have b6 := b 6 (by omega)
   have a7 := a 7 (by omega)
   have b7 := b 7 (by omega)
   have a8 := a 8 (by omega)
   have b8 := b 8 (by omega)
   have a9 := a 9 (by omega)
   have b9 := b 9 (by omega)
   have a10 := a 10 (by omega)
   have b10 := b 10 (by omega)
   have a11 := a 11 (by omega)
   have b11 := b 11 (by omega)
   have a12 := a 12 (by omega)
   have b12 := b 12 (by omega)
   simp only [ecs, List.getElem?_cons_succ, List.getElem?_cons_zero, Nat.add_zero] at a0 b0 a1 b1 a2 b2 a3 b3 a4 b4 a5 b5 a6 b6 a7 b7 a8 b8 a9 b9 a10 b10 a11 b11 a12 b12
   have i0' : (0 : Int) ≤ (i : Int) := by omega
   have i1 : (i : Int) < (n : Int) := by omega
   clear hp hp2 hmx hz a b
   go_wp2_with fail
   go_quiet (fail)
   go_wp2
   go_roundw
   case rel => exact ⟨i + 1, by omega, by go_num, hid (btr HB.out (bdrew _ _))⟩
   case measure => simp [intOf]; omega
  ·obtain rfl : i = n := by omega
   go_wp2
   go_ret
   exact ⟨rfl, HB.out⟩
end Go.Proofs.Ytalgndgoedlpoaa
