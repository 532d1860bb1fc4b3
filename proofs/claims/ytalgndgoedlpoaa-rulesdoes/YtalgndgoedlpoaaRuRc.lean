/-
  RuRa RuPe RuRb RuRc
-/
import Derived.Test.YtalgndgoedlpoaaRuKw
import Derived.Laws.AppendOwnNone
namespace Go.Proofs.Ytalgndgoedlpoaa
section
open Go.RowKit Go.Deep Go.Shelf
set_option linter.unusedVariables false
set_option linter.unusedSimpArgs false
set_option maxHeartbeats 4000000
set_option maxRecDepth 100000
theorem dbetter_any (s p q : Int) (w : World) : Calls Try.prog 69 #[.int .i64 s, .int .i64 p, .int .i64 q] w fun e w' => e = .returned (.bool (btt s p q)) ∧ w' = w := by
 by_cases h : s = 1
 ·subst h
  go_enter Try.func69, Try.ntmps69
  go_wp2
  go_ret
  exact ⟨by simp [btt], rfl⟩
 ·have h1 : (s == 1) = false := by simpa using h
  go_enter Try.func69, Try.ntmps69
  go_wp2
  go_ret
  exact ⟨by simp [btt, h], rfl⟩
theorem dconfig_any (cap meet : Int) (w : World) : Calls Try.prog 22 #[.agg #[.int .i64 cap, .int .i64 meet]] w fun e w' => e = .returned (.bool (cfg cap meet)) ∧ Below w.heap.size w w' := by
 by_cases h1 : 1 ≤ cap
 ·by_cases h2 : cap ≤ 4096
  ·by_cases h3 : 0 ≤ meet
   ·have d1 : decide (1 ≤ cap) = true := by simpa using h1
    have d2 : decide (cap ≤ 4096) = true := by simpa using h2
    have d3 : decide (0 ≤ meet) = true := by simpa using h3
    have e : cfg cap meet = decide (meet ≤ 3) := by unfold cfg; simp [h1, h2, h3]
    rw [e]
    go_enter Try.func22, Try.ntmps22
    go_wp2
    go_ret
    exact ⟨rfl, ball _ _⟩
   ·have d1 : decide (1 ≤ cap) = true := by simpa using h1
    have d2 : decide (cap ≤ 4096) = true := by simpa using h2
    have d3 : decide (0 ≤ meet) = false := by simpa using h3
    have e : cfg cap meet = false := by unfold cfg; simp [h3]
    rw [e]
    clear e h1 h2 h3
    go_enter Try.func22, Try.ntmps22
    go_wp2
    go_ret
    exact ⟨rfl, ball _ _⟩
  ·have d1 : decide (1 ≤ cap) = true := by simpa using h1
   have d2 : decide (cap ≤ 4096) = false := by simpa using h2
   have e : cfg cap meet = false := by unfold cfg; simp [h2]
   rw [e]
   clear e h1 h2
   go_enter Try.func22, Try.ntmps22
   go_wp2
   go_ret
   exact ⟨rfl, ball _ _⟩
 ·have d1 : decide (1 ≤ cap) = false := by simpa using h1
  have e : cfg cap meet = false := by unfold cfg; simp [h1]
  rw [e]
  clear e h1
  go_enter Try.func22, Try.ntmps22
  go_wp2
  go_ret
  exact ⟨rfl, ball _ _⟩
/-- a book of the document's, by its numbers and its slices. -/
def dbv (cap meet : Int) (v1 v2 : Value) (high seq : Int) : Array Value := #[.int .i64 cap, .int .i64 meet, v1, v2, .int .u64 high, .int .u64 seq]
theorem info32 : (Try.prog.info? 32).map (·.size) = some 6 := by kernel_rfl
theorem info74 : (Try.prog.info? 74).map (·.size) = some 7 := by kernel_rfl
theorem info78 : (Try.prog.info? 78).map (·.size) = some 7 := by kernel_rfl
section
variable {P : Program}
theorem res_ct {fn : Func} {p q : Tmp} {ty : TypeId} (h : fn.results = #[.cell p ty, .tmp q]) (tmps : Array Value) (w : World) (g : Nat) (t : TypeId) (cs : Array Value) (fr : Nat × Nat) (d : TypeDesc) (v : Value)
  (hp : tmps.getD p undef = .pointer (some ⟨g, 0, none⟩)) (hq : tmps.getD q undef = v) (hg : w.heap[g]? = some (.cells cs t fr))
  (hu : P.underlying ty = some d) (hd : (match d with | .struct _ | .array _ _ => true | _ => false) = true) (hi : (P.info? ty).map (·.size) = some cs.size) :
  (results fn tmps).run P w = .ok (.tuple #[.agg cs, v]) w := by
 have hp' : tmps[p]?.getD undef = .pointer (some ⟨g, 0, none⟩) := by simpa using hp
 have hq' : tmps[q]?.getD undef = v := by simpa using hq
 simp [results, h, hp', hq', asAddr, run_loadVar_row w g t ty cs fr d hg hu hd hi]
theorem res_cc {fn : Func} {p p2 : Tmp} {ty ty2 : TypeId} (h : fn.results = #[.cell p ty, .cell p2 ty2]) (tmps : Array Value) (w : World) (g g2 : Nat) (t t2 : TypeId) (cs cs2 : Array Value) (fr fr2 : Nat × Nat) (d d2 : TypeDesc)
  (hp : tmps.getD p undef = .pointer (some ⟨g, 0, none⟩)) (hp2 : tmps.getD p2 undef = .pointer (some ⟨g2, 0, none⟩)) (hg : w.heap[g]? = some (.cells cs t fr)) (hg2 : w.heap[g2]? = some (.cells cs2 t2 fr2))
  (hu : P.underlying ty = some d) (hd : (match d with | .struct _ | .array _ _ => true | _ => false) = true) (hi : (P.info? ty).map (·.size) = some cs.size)
  (hu2 : P.underlying ty2 = some d2) (hd2 : (match d2 with | .struct _ | .array _ _ => true | _ => false) = true) (hi2 : (P.info? ty2).map (·.size) = some cs2.size) :
  (results fn tmps).run P w = .ok (.tuple #[.agg cs, .agg cs2]) w := by
 have hp' : tmps[p]?.getD undef = .pointer (some ⟨g, 0, none⟩) := by simpa using hp
 have hp2' : tmps[p2]?.getD undef = .pointer (some ⟨g2, 0, none⟩) := by simpa using hp2
 simp [results, h, hp', hp2', asAddr, run_loadVar_row w g t ty cs fr d hg hu hd hi, run_loadVar_row w g2 t2 ty2 cs2 fr2 d2 hg2 hu2 hd2 hi2]
end
theorem setRow_below {w W : World} {g : Nat} {cs : Array Value} (h : Below w.heap.size w W) (hg : w.heap.size ≤ g) : Below w.heap.size w (W.setRow g cs) := h.trans ((setRow_kp W g cs).below h.size (fun b hb e => by omega))
theorem dnew_any (cap meet : Int) (w : World) : Calls Try.prog 9 #[.agg #[.int .i64 cap, .int .i64 meet]] w fun e w' =>
  e = .returned (.tuple #[.agg (if cfg cap meet = true then dbv cap meet (.slice none 0 0) (.slice none 0 0) 0 0 else dbv 0 0 (.slice none 0 0) (.slice none 0 0) 0 0), .int .i64 (if cfg cap meet = true then 0 else 1)]) ∧ Below w.heap.size w w' := by
 have CC := hid (fun U => dconfig_any cap meet U)
 obtain ⟨v, hv⟩ : ∃ v, cfg cap meet = v := ⟨_, rfl⟩
 rw [hv] at CC ⊢
 obtain ⟨U0, hU0⟩ : ∃ U0, w.alloc (.cells #[.int .i64 cap, .int .i64 meet] 23) = U0 := ⟨_, rfl⟩
 obtain ⟨W1, hW1⟩ : ∃ W1, U0.alloc (.cells #[.int .i64 0, .int .i64 0, .slice none 0 0, .slice none 0 0, .int .u64 0, .int .u64 0] 32) = W1 := ⟨_, rfl⟩
 have hs0 : U0.heap.size = w.heap.size + 1 := by rw [← hU0]; simp
 have hB : W1.heap[w.heap.size]? = some (.cells #[.int .i64 cap, .int .i64 meet] 23 (0, 0)) := by
  rw [← hW1]; exact row_on (by rw [← hU0]; exact World.alloc_heap_new _ _) (ball _ _)
 have hZ : W1.heap[w.heap.size + 1]? = some (.cells #[.int .i64 0, .int .i64 0, .slice none 0 0, .slice none 0 0, .int .u64 0, .int .u64 0] 32 (0, 0)) := by
  rw [← hW1, ← hs0]; exact World.alloc_heap_new _ _
 have HBW := hid (show Below w.heap.size w W1 from by rw [← hW1, ← hU0]; exact btr (ball _ _) (ball _ _))
 have HZ := hid hZ
 have HB := hid hB
 have HU := hid hU0
 have HW := hid hW1
 have c0 := row_cell hB 0
 have c1 := row_cell hB 1
 simp only [List.getElem?_toArray, List.getElem?_cons_succ, List.getElem?_cons_zero] at c0 c1
 clear hv hU0 hW1 hs0 hB hZ
 cases v with
 | false =>
  go_enter Try.func9, Try.ntmps9
  go_upto_region 1 with fail
  rw [HU.out, HW.out]
  go_upto_region 2 with (go_at_call 22; with_reducible refine (CC.out _).mono ?_; rintro e w1 ⟨rfl, hb1⟩; have HB1 := hid hb1; clear hb1)
  clear c0 c1
  have HZ1 := hid (row_on HZ.out HB1.out)
  have AI := hid (show (Try.prog.info? 32).map (·.size) = some (#[.int .i64 0, .int .i64 0, .slice none 0 0, .slice none 0 0, .int .u64 0, .int .u64 0] : Array Value).size from info32)
  have AS := hid (show (#[.int .i64 0, .int .i64 0, .slice none 0 0, .slice none 0 0, .int .u64 0, .int .u64 0] : Array Value).size = (#[.int .i64 0, .int .i64 0, .slice none 0 0, .slice none 0 0, .int .u64 0, .int .u64 0] : Array Value).size from rfl)
  have AA := hid (show (#[.int .i64 0, .int .i64 0, .slice none 0 0, .slice none 0 0, .int .u64 0, .int .u64 0] : Array Value).all (·.oneCell') = true from by simp [Value.oneCell'])
  go_wp2_with (refine wpList_store_row (by rfl) 32 (.tmp 2) (.tmp 7) (by rfl) (w.heap.size + 1) #[.int .i64 0, .int .i64 0, .slice none 0 0, .slice none 0 0, .int .u64 0, .int .u64 0] (by rfl) (by rfl) 32 _ HZ1.out AI.out AS.out AA.out ?_)
  refine bodyPost_ret (res_ct Try.results9 _ _ (w.heap.size + 1) 32 #[.int .i64 0, .int .i64 0, .slice none 0 0, .slice none 0 0, .int .u64 0, .int .u64 0] (0, 0) _ (.int .i64 1) (by rfl) (by rfl) (setRow_heap _ _ _ _ 32 (0, 0) HZ1.out) Try.underlying32 rfl info32) rfl ⟨rfl, ?_⟩
  exact setRow_below (btr HBW.out HB1.out) (by omega)
 | true =>
  go_enter Try.func9, Try.ntmps9
  go_upto_region 1 with fail
  rw [HU.out, HW.out]
  go_upto_region 3 with (go_at_call 22; with_reducible refine (CC.out _).mono ?_; rintro e w1 ⟨rfl, hb1⟩; have HB1 := hid hb1; clear hb1)
  clear c0 c1
  have HZ1 := hid (row_on HZ.out HB1.out)
  have hB1 := row_on HB.out HB1.out
  have c0 := row_cell hB1 0
  have c1 := row_cell hB1 1
  simp only [List.getElem?_toArray, List.getElem?_cons_succ, List.getElem?_cons_zero] at c0 c1
  clear hB1
  have AI := hid (show (Try.prog.info? 32).map (·.size) = some (#[.int .i64 cap, .int .i64 meet, .slice none 0 0, .slice none 0 0, .int .u64 0, .int .u64 0] : Array Value).size from info32)
  have AS := hid (show (#[.int .i64 0, .int .i64 0, .slice none 0 0, .slice none 0 0, .int .u64 0, .int .u64 0] : Array Value).size = (#[.int .i64 cap, .int .i64 meet, .slice none 0 0, .slice none 0 0, .int .u64 0, .int .u64 0] : Array Value).size from rfl)
  have AA := hid (show (#[.int .i64 cap, .int .i64 meet, .slice none 0 0, .slice none 0 0, .int .u64 0, .int .u64 0] : Array Value).all (·.oneCell') = true from by simp [Value.oneCell'])
  go_wp2_with (refine wpList_store_row (by rfl) 32 (.tmp 2) (.tmp 9) (by rfl) (w.heap.size + 1) #[.int .i64 cap, .int .i64 meet, .slice none 0 0, .slice none 0 0, .int .u64 0, .int .u64 0] (by rfl) (by rfl) 32 _ HZ1.out AI.out AS.out AA.out ?_)
  refine bodyPost_ret (res_ct Try.results9 _ _ (w.heap.size + 1) 32 #[.int .i64 cap, .int .i64 meet, .slice none 0 0, .slice none 0 0, .int .u64 0, .int .u64 0] (0, 0) _ (.int .i64 0) (by rfl) (by rfl) (setRow_heap _ _ _ _ 32 (0, 0) HZ1.out) Try.underlying32 rfl info32) rfl ⟨rfl, ?_⟩
  exact setRow_below (btr HBW.out HB1.out) (by omega)
theorem dside_any (cap meet : Int) (x1 x2 : Option Addr) (n1 n2 c1 c2 : Nat) (high seq s : Int) (hs : s = 1 ∨ s = 2) (w : World) :
  Calls Try.prog 34 #[.agg (dbv cap meet (.slice x1 n1 c1) (.slice x2 n2 c2) high seq), .int .i64 s] w fun e w' => e = .returned (if s = 1 then .slice x1 n1 c1 else .slice x2 n2 c2) ∧ Below w.heap.size w w' := by
 unfold dbv
 rcases hs with rfl | rfl
 ·go_enter Try.func34, Try.ntmps34
  go_wp2
  go_ret
  exact ⟨rfl, ball _ _⟩
 ·go_enter Try.func34, Try.ntmps34
  go_wp2
  go_ret
  exact ⟨rfl, ball _ _⟩
theorem dwith_any (cap meet : Int) (high seq s : Int) (w : World) (x1 x2 x3 : Option Addr) (n1 n2 n3 c1 c2 c3 : Nat) :
  Calls Try.prog 32 #[.agg (dbv cap meet (.slice x1 n1 c1) (.slice x2 n2 c2) high seq), .int .i64 s, .slice x3 n3 c3] w fun e w' => e = .returned (.agg (if s = 1 then dbv cap meet (.slice x3 n3 c3) (.slice x2 n2 c2) high seq else dbv cap meet (.slice x1 n1 c1) (.slice x3 n3 c3) high seq)) ∧ Below w.heap.size w w' := by
 unfold dbv
 by_cases h : s = 1
 ·subst h
  go_enter Try.func32, Try.ntmps32
  go_wp2
  exact bodyPost_ret (v := .agg #[.int .i64 cap, .int .i64 meet, .slice x3 n3 c3, .slice x2 n2 c2, .int .u64 high, .int .u64 seq]) (by simp [results, Try.results32, go_sem]) rfl ⟨rfl, by repeat (first | exact Below.refl _ _ | refine Below.setCell ?_ (by simp; try omega) _ | refine Below.alloc ?_ (by simp; try omega) _)⟩
 ·have h1 : (s == 1) = false := by simpa using h
  rw [if_neg h]
  clear h
  go_enter Try.func32, Try.ntmps32
  go_wp2
  exact bodyPost_ret (v := .agg #[.int .i64 cap, .int .i64 meet, .slice x1 n1 c1, .slice x3 n3 c3, .int .u64 high, .int .u64 seq]) (by simp [results, Try.results32, go_sem]) rfl ⟨rfl, by repeat (first | exact Below.refl _ _ | refine Below.setCell ?_ (by simp; try omega) _ | refine Below.alloc ?_ (by simp; try omega) _)⟩
end
section
open Go.RowKit Go.Deep Go.Shelf
set_option linter.unusedVariables false
set_option linter.unusedSimpArgs false
set_option maxHeartbeats 8000000
set_option maxRecDepth 100000
/-- orders in memory, from some place on. -/
def Osz (w : World) (q : Option Addr) (os : List Or) : Prop := ∀ i (h : i < os.length), ∃ b off, q = some ⟨b, off, none⟩ ∧ b < w.heap.size ∧ ∀ j, j < 7 → w.cell? ⟨b, off + i * 7 + j, none⟩ = (orow os[i]).toList[j]?
theorem osz_cells {W U : World} {q : Option Addr} {os : List Or} (h : Osz W q os) (hU : Below W.heap.size W U) {i : Nat} (hi : i < os.length) : ∃ b off, q = some ⟨b, off, none⟩ ∧ U.cell? ⟨b, off + i * 7, none⟩ = some (.int .u64 os[i].id) ∧ U.cell? ⟨b, off + i * 7 + 1, none⟩ = some (.int .u32 os[i].mb) ∧ U.cell? ⟨b, off + i * 7 + 2, none⟩ = some (.int .i64 os[i].ty) ∧ U.cell? ⟨b, off + i * 7 + 3, none⟩ = some (.int .i64 os[i].pr) ∧ U.cell? ⟨b, off + i * 7 + 4, none⟩ = some (.int .u64 os[i].vi) ∧ U.cell? ⟨b, off + i * 7 + 5, none⟩ = some (.int .u64 os[i].hi) ∧ U.cell? ⟨b, off + i * 7 + 6, none⟩ = some (.int .u64 os[i].pk) := by
 obtain ⟨b, off, hq, hb, hc⟩ := h i hi
 have go : ∀ j, j < 7 → U.cell? ⟨b, off + i * 7 + j, none⟩ = (orow os[i]).toList[j]? := fun j hj => (hU.cell (p := ⟨b, off + i * 7 + j, none⟩) hb).trans (hc j hj)
 exact ⟨b, off, hq, go 0 (by omega), go 1 (by omega), go 2 (by omega), go 3 (by omega), go 4 (by omega), go 5 (by omega), go 6 (by omega)⟩
def bhO (s p : Int) (os : List Or) : Nat := (os.takeWhile fun y => !btt s p y.pr).length
def inO (k : Nat) (o : Or) (os : List Or) : List Or := os.take k ++ o :: os.drop k
/-- what stands behind so many. -/
def stO (k : Nat) (o : Or) (os : List Or) (i : Nat) : List Or := if i ≤ k then os.take i else os.take k ++ o :: (os.drop k).take (i - k)
theorem bhO_le (s p : Int) (os : List Or) : bhO s p os ≤ os.length := (List.takeWhile_prefix _).length_le
theorem bhO_lt {s p : Int} {os : List Or} {i : Nat} (hi : i < bhO s p os) : btt s p (os[i]'(Nat.lt_of_lt_of_le hi (bhO_le s p os))).pr = false := by
 have h : (os.takeWhile fun y => !btt s p y.pr)[i]'hi ∈ os.takeWhile fun y => !btt s p y.pr := List.getElem_mem hi
 have e : (os.takeWhile fun y => !btt s p y.pr)[i]'hi = os[i]'(Nat.lt_of_lt_of_le hi (bhO_le s p os)) := (List.takeWhile_prefix _).getElem hi
 have := List.all_takeWhile (l := os) (p := fun y => !btt s p y.pr)
 rw [List.all_eq_true] at this
 have k := this _ h
 rw [e] at k
 simpa using k
theorem bhO_at {s p : Int} : ∀ {os : List Or} (h : bhO s p os < os.length), btt s p (os[bhO s p os]).pr = true
 | [], h => by simp at h
 | x :: r, h => by
  cases hx : btt s p x.pr with
  | true =>
   have e : bhO s p (x :: r) = 0 := by simp [bhO, List.takeWhile_cons, hx]
   simp [e, hx]
  | false =>
   have e : bhO s p (x :: r) = bhO s p r + 1 := by simp [bhO, List.takeWhile_cons, hx]
   have h' : bhO s p r < r.length := by rw [e] at h; simpa using h
   have := bhO_at (s := s) (p := p) (os := r) h'
   simp only [e, List.getElem_cons_succ]
   exact this
theorem stO_lt {k i : Nat} {o : Or} {os : List Or} (hi : i < os.length) (h : i < k) : stO k o os (i + 1) = stO k o os i ++ [os[i]] := by
 unfold stO
 rw [if_pos (by omega), if_pos (by omega), List.take_succ_eq_append_getElem hi]
theorem stO_gt {k i : Nat} {o : Or} {os : List Or} (hi : i < os.length) (h : k < i) : stO k o os (i + 1) = stO k o os i ++ [os[i]] := by
 unfold stO
 rw [if_neg (by omega), if_neg (by omega), show i + 1 - k = (i - k) + 1 by omega, List.take_succ_eq_append_getElem (by simp; omega)]
 simp only [List.getElem_drop, List.append_assoc, List.cons_append]
 congr 5
 omega
theorem stO_eq {i : Nat} {o : Or} {os : List Or} (hi : i < os.length) : stO i o os (i + 1) = stO i o os i ++ [o] ++ [os[i]] := by
 unfold stO
 have e : List.take 1 (List.drop i os) = [os[i]] := by rw [List.drop_eq_getElem_cons hi]; rfl
 rw [if_neg (by omega), if_pos (by omega), show i + 1 - i = 1 by omega, e]
 simp
theorem stO_end {k : Nat} {o : Or} {os : List Or} (h : k < os.length) : stO k o os os.length = inO k o os := by
 unfold stO inO
 rw [if_neg (by omega), show (os.drop k).take (os.length - k) = os.drop k from List.take_of_length_le (by simp)]
theorem stO_end' {o : Or} {os : List Or} : stO os.length o os os.length ++ [o] = inO os.length o os := by
 unfold stO inO
 simp
end
section
open Go.RowKit Go.Deep Go.Shelf
set_option linter.unusedVariables false
set_option linter.unusedSimpArgs false
set_option maxHeartbeats 4000000
set_option maxRecDepth 100000
section
variable {P : Program}
theorem grown_refl (w : World) (r : Option Nat) : w.grownBy w r := ⟨rfl, rfl, rfl, Nat.le_refl _, fun _ _ _ => rfl⟩
/-- rows behind rows, whatever they are. -/
theorem wp_app_rows {w : World} {o : Oper} {a : Act} {K : Act → World → Prop} {Q : Exit → Act → World → Prop} (s x : Operand) (t : TypeId)
  (ho : o.op = .call { callee := .builtin .append, args := #[s, x], argTypes := #[t, t] })
  (base base2 : Nat) (e : TypeId) (i : TypeInfo) (z : Value) (size bytes : Nat) (ht : P.underlying t = some (.slice e)) (hi : P.info? e = some i) (hz : i.zero = some z)
  (hsize : i.size = size) (hby : i.bytes = bytes) (hzs : z.cells.size = size) (hsz : 0 < size)
  (v : Value) (n : Nat) (xs : List Value) (hs : a.eval s = v) (hown : w.ownsRow base e size v n xs)
  (v2 : Value) (m : Nat) (ys : List Value) (hx : a.eval x = v2) (hown2 : w.ownsRow base2 e size v2 m ys) (h1 : ∀ u ∈ ys, u.oneCell' = true)
  (h63 : n + m ≤ maxLen) (hbytes : (n + m) * bytes ≤ 140737488355328) (hbase : base ≤ w.heap.size)
  (h : ∀ v' w', w'.ownsRow base e size v' (n + m) (xs ++ ys) → w.grownBy w' v.ownBlock → K (a.put o.dst v') w') : Oper.wp P o a w K Q := by
 obtain ⟨g1, ⟨rfl, rfl⟩ | ⟨g, cap, cur, rfl, r1, r2, r3, r4, r5, r6⟩⟩ := hown2
 ·obtain rfl : ys = [] := List.length_eq_zero_iff.1 (by simpa using g1)
  have hrun := run_append_owned_none (P := P) (w := w) base t o.type e i size ht hi v n xs hown
  unfold Oper.wp
  simp [execOp, ho, resolve, invoke, builtin, hs, hx, hrun, Result.andThen]
  exact h v w (by simpa using hown) (grown_refl _ _)
 ·refine wp_append_own w s x t ho base e i z size bytes ht hi hz hsize hby hzs hsz v n xs hs hown ⟨g, 0, none⟩ m cap ys hx g1 (fun j u hj => ?_) h1 h63 hbytes hbase (fun v' w' h2 h3 _ => h v' w' h2 h3)
  rw [Addr.add_lit, Nat.zero_add, row_cell r2]
  have := congrArg (fun z => z[j]?) r6
  have hlt : j < m * size := by rw [← g1]; exact (List.getElem?_eq_some_iff.1 hj).1
  simp only [List.getElem?_take, hlt, if_true, Array.getElem?_toList] at this
  rw [this, hj]
theorem wpList_app_rows {w : World} {ops : Array Oper} {rest : List Oper} {o : Oper} {a : Act} {Q : Exit → Act → World → Prop} (hgd : o.guard = none) (s x : Operand) (t : TypeId)
  (ho : o.op = .call { callee := .builtin .append, args := #[s, x], argTypes := #[t, t] })
  (base base2 : Nat) (e : TypeId) (i : TypeInfo) (z : Value) (size bytes : Nat) (ht : P.underlying t = some (.slice e)) (hi : P.info? e = some i) (hz : i.zero = some z)
  (hsize : i.size = size) (hby : i.bytes = bytes) (hzs : z.cells.size = size) (hsz : 0 < size)
  (v : Value) (n : Nat) (xs : List Value) (hs : a.eval s = v) (hown : w.ownsRow base e size v n xs)
  (v2 : Value) (m : Nat) (ys : List Value) (hx : a.eval x = v2) (hown2 : w.ownsRow base2 e size v2 m ys) (h1 : ∀ u ∈ ys, u.oneCell' = true)
  (h63 : n + m ≤ maxLen) (hbytes : (n + m) * bytes ≤ 140737488355328) (hbase : base ≤ w.heap.size)
  (h : ∀ v' w', w'.ownsRow base e size v' (n + m) (xs ++ ys) → w.grownBy w' v.ownBlock → wpList P ops Q rest (a.put o.dst v') w') : wpList P ops Q (o :: rest) a w :=
 wpList_plain hgd fun _ hK => wp_app_rows s x t ho base base2 e i z size bytes ht hi hz hsize hby hzs hsz v n xs hs hown v2 m ys hx hown2 h1 h63 hbytes hbase fun v' w' h2 h3 => hK _ _ (h v' w' h2 h3)
theorem step_app_rows {w : World} {ops : Array Oper} {o : Oper} {a : Act} {K : Act → World → Prop} {Q : Exit → Act → World → Prop} {E : Prop} (hgd : o.guard = none) (s x : Operand) (t : TypeId)
  (ho : o.op = .call { callee := .builtin .append, args := #[s, x], argTypes := #[t, t] })
  (base base2 : Nat) (e : TypeId) (i : TypeInfo) (z : Value) (size bytes : Nat) (ht : P.underlying t = some (.slice e)) (hi : P.info? e = some i) (hz : i.zero = some z)
  (hsize : i.size = size) (hby : i.bytes = bytes) (hzs : z.cells.size = size) (hsz : 0 < size)
  (v : Value) (n : Nat) (xs : List Value) (hs : a.eval s = v) (hown : w.ownsRow base e size v n xs)
  (v2 : Value) (m : Nat) (ys : List Value) (hx : a.eval x = v2) (hown2 : w.ownsRow base2 e size v2 m ys) (h1 : ∀ u ∈ ys, u.oneCell' = true)
  (h63 : n + m ≤ maxLen) (hbytes : (n + m) * bytes ≤ 140737488355328) (hbase : base ≤ w.heap.size)
  (h : ∀ v' w', w'.ownsRow base e size v' (n + m) (xs ++ ys) → w.grownBy w' v.ownBlock → K (a.put o.dst v') w') :
  if Region.wanted o (yielded ops a.tmps) = true then Oper.wp P o a w K Q else E := by
 have hw : Region.wanted o (yielded ops a.tmps) = true := by simp [Region.wanted, hgd]
 rw [if_pos hw]
 exact wp_app_rows s x t ho base base2 e i z size bytes ht hi hz hsize hby hzs hsz v n xs hs hown v2 m ys hx hown2 h1 h63 hbytes hbase h
end
/-- orders in memory, wherever. -/
def Rw (w : World) (v : Value) (os : List Or) : Prop := w.ownsRow 0 50 7 v os.length (ors os)
theorem Rw.on {w w' : World} {v : Value} {os : List Or} (h : Rw w v os) (hb : Below w.heap.size w w') : Rw w' v os := own_on h hb
theorem ors_one (os : List Or) : ∀ u ∈ ors os, u.oneCell' = true := by
 intro u hu
 simp only [ors, List.mem_flatMap] at hu
 obtain ⟨x, _, hx⟩ := hu
 exact orow_one x u hx
theorem evs_one (es : List Ev) : ∀ u ∈ evs es, u.oneCell' = true := by
 intro u hu
 simp only [evs, List.mem_flatMap] at hu
 obtain ⟨x, _, hx⟩ := hu
 exact ecs_one x u hx
theorem Rw.grown {w W U : World} {v : Value} {n : Nat} {xs : List Value} (hb : Below w.heap.size w W) (hv : W.ownsRow w.heap.size 50 7 v n xs) (hg : W.grownBy U v.ownBlock) : Below w.heap.size w U :=
 hb.grown hg hb.size (fun j hj => (hv.lt j hj).1)
theorem row6 {w : World} {g : Nat} {t : TypeId} {a0 a1 a2 a3 a4 a5 : Value} (h : w.heap[g]? = some (.cells #[a0, a1, a2, a3, a4, a5] t (0, 0))) : w.cell? ⟨g, 0, none⟩ = some a0 ∧ w.cell? ⟨g, 1, none⟩ = some a1 ∧ w.cell? ⟨g, 2, none⟩ = some a2 ∧ w.cell? ⟨g, 3, none⟩ = some a3 ∧ w.cell? ⟨g, 4, none⟩ = some a4 ∧ w.cell? ⟨g, 5, none⟩ = some a5 :=
 ⟨row_cell h 0, row_cell h 1, row_cell h 2, row_cell h 3, row_cell h 4, row_cell h 5⟩
theorem made0 {w U : World} (t : TypeId) (size : Nat) (h : Below w.heap.size w U) : (U.alloc (.cells #[] t)).ownsRow w.heap.size t size (.slice (some ⟨U.heap.size, 0, none⟩) 0 0) 0 [] := World.ownsRow_made U #[] 0 h.size (by unfold maxLen; omega) (by simp)
end
section
open Go.RowKit Go.Deep Go.Shelf
set_option linter.unusedVariables false
set_option linter.unusedSimpArgs false
set_option maxHeartbeats 4000000
set_option maxRecDepth 100000
theorem rw_osz {w : World} {p : Option Addr} {c : Nat} {os : List Or} (h : Rw w (.slice p os.length c) os) : Osz w p os := fun i hi => by
 obtain ⟨h1, ⟨e, e2⟩ | ⟨g, c', cur, e, r1, r2, r3, r4, r5, r6⟩⟩ := h
 ·omega
 ·refine ⟨g, 0, (Value.slice.inj e).1, row_lt r2, fun j hj => ?_⟩
  have := congrArg (fun z => z[i * 7 + j]?) r6
  have hlt : i * 7 + j < os.length * 7 := by omega
  simp only [List.getElem?_take, hlt, if_true, Array.getElem?_toList] at this
  rw [row_cell r2, Nat.zero_add, this, ors_get hi hj]
/-- a list without an order. -/
def wo (id : Int) (os : List Or) : List Or := os.filter fun x => !(x.id == id)
theorem wo_snoc (id : Int) (os : List Or) (x : Or) : wo id (os ++ [x]) = wo id os ++ if x.id = id then [] else [x] := by
 unfold wo
 rw [List.filter_append]
 by_cases h : x.id = id
 ·simp [h]
 ·simp [h]
theorem wo_len (id : Int) (os : List Or) : (wo id os).length ≤ os.length := List.length_filter_le _ _
end
end Go.Proofs.Ytalgndgoedlpoaa
