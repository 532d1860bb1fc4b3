/-
  The document's book: whether a config can be, better, New, side, with.
-/
import Derived.Test.YthdikkchblmebaaRuRg
import Derived.Laws.AppendOwnNone
namespace Go.Proofs.Ythdikkchblmebaa
open Go.RowKit Go.Deep Go.Shelf
set_option linter.unusedVariables false
set_option linter.unusedSimpArgs false
set_option maxHeartbeats 4000000
set_option maxRecDepth 100000
theorem dbetter_any (s p q : Int) (w : World) : Calls Try.prog 41 #[.int .i64 s, .int .i64 p, .int .i64 q] w fun e w' => e = .returned (.bool (btt s p q)) ∧ w' = w := by
  by_cases h : s = 1
  · subst h
    go_enter Try.func41, Try.ntmps41
    go_wp2
    go_ret
    exact ⟨by simp [btt], rfl⟩
  · have h1 : (s == 1) = false := by simpa using h
    go_enter Try.func41, Try.ntmps41
    go_wp2
    go_ret
    exact ⟨by simp [btt, h], rfl⟩
theorem dconfig_any (cap meet : Int) (w : World) : Calls Try.prog 16 #[.agg #[.int .i64 cap, .int .i64 meet]] w fun e w' => e = .returned (.bool (cfg cap meet)) ∧ Below w.heap.size w w' := by
  by_cases h1 : 1 ≤ cap
  · by_cases h2 : cap ≤ 4096
    · by_cases h3 : 0 ≤ meet
      · have d1 : decide (1 ≤ cap) = true := by simpa using h1
        have d2 : decide (cap ≤ 4096) = true := by simpa using h2
        have d3 : decide (0 ≤ meet) = true := by simpa using h3
        have e : cfg cap meet = decide (meet ≤ 3) := by unfold cfg; simp [h1, h2, h3]
        rw [e]
        go_enter Try.func16, Try.ntmps16
        go_wp2
        go_ret
        exact ⟨rfl, ball _ _⟩
      · have d1 : decide (1 ≤ cap) = true := by simpa using h1
        have d2 : decide (cap ≤ 4096) = true := by simpa using h2
        have d3 : decide (0 ≤ meet) = false := by simpa using h3
        have e : cfg cap meet = false := by unfold cfg; simp [h3]
        rw [e]
        clear e h1 h2 h3
        go_enter Try.func16, Try.ntmps16
        go_wp2
        go_ret
        exact ⟨rfl, ball _ _⟩
    · have d1 : decide (1 ≤ cap) = true := by simpa using h1
      have d2 : decide (cap ≤ 4096) = false := by simpa using h2
      have e : cfg cap meet = false := by unfold cfg; simp [h2]
      rw [e]
      clear e h1 h2
      go_enter Try.func16, Try.ntmps16
      go_wp2
      go_ret
      exact ⟨rfl, ball _ _⟩
  · have d1 : decide (1 ≤ cap) = false := by simpa using h1
    have e : cfg cap meet = false := by unfold cfg; simp [h1]
    rw [e]
    clear e h1
    go_enter Try.func16, Try.ntmps16
    go_wp2
    go_ret
    exact ⟨rfl, ball _ _⟩
/-- a book of the document's, by its numbers and its slices. -/
def dbv (cap meet : Int) (v1 v2 : Value) (high seq : Int) : Array Value := #[.int .i64 cap, .int .i64 meet, v1, v2, .int .u64 high, .int .u64 seq]
theorem info32 : (Try.prog.info? 30).map (·.size) = some 6 := by kernel_rfl
section
variable {P : Program}
theorem res_ct {fn : Func} {p q : Tmp} {ty : TypeId} (h : fn.results = #[.cell p ty, .tmp q]) (tmps : Array Value) (w : World) (g : Nat) (t : TypeId) (cs : Array Value) (fr : Nat × Nat) (d : TypeDesc) (v : Value)
    (hp : tmps.getD p undef = .pointer (some ⟨g, 0, none⟩)) (hq : tmps.getD q undef = v) (hg : w.heap[g]? = some (.cells cs t fr))
    (hu : P.underlying ty = some d) (hd : (match d with | .struct _ | .array _ _ => true | _ => false) = true) (hi : (P.info? ty).map (·.size) = some cs.size) :
    (results fn tmps).run P w = .ok (.tuple #[.agg cs, v]) w := by
  have hp' : tmps[p]?.getD undef = .pointer (some ⟨g, 0, none⟩) := by simpa using hp
  have hq' : tmps[q]?.getD undef = v := by simpa using hq
  simp [results, h, hp', hq', asAddr, run_loadVar_row w g t ty cs fr d hg hu hd hi]
theorem res_cc {fn : Func} {p p2 : Tmp} {ty ty2 : TypeId} (h : fn.results = #[.cell p ty, .cell p2 ty2]) (tmps : Array Value) (w : World) (g g2 : Nat) (t t2 : TypeId) (cs cs2 : Array Value) (fr fr2 : Nat × Nat) (d d2 : TypeDesc)
    (hp : tmps.getD p undef = .pointer (some ⟨g, 0, none⟩)) (hp2 : tmps.getD p2 undef = .pointer (some ⟨g2, 0, none⟩)) (hg : w.heap[g]? = some (.cells cs t fr)) (hg2 : w.heap[g2]? = some (.cells cs2 t2 fr2))
    (hu : P.underlying ty = some d) (hd : (match d with | .struct _ | .array _ _ => true | _ => false) = true) (hi : (P.info? ty).map (·.size) = some cs.size)
    (hu2 : P.underlying ty2 = some d2) (hd2 : (match d2 with | .struct _ | .array _ _ => true | _ => false) = true) (hi2 : (P.info? ty2).map (·.size) = some cs2.size) :
    (results fn tmps).run P w = .ok (.tuple #[.agg cs, .agg cs2]) w := by
  have hp' : tmps[p]?.getD undef = .pointer (some ⟨g, 0, none⟩) := by simpa using hp
  have hp2' : tmps[p2]?.getD undef = .pointer (some ⟨g2, 0, none⟩) := by simpa using hp2
  simp [results, h, hp', hp2', asAddr, run_loadVar_row w g t ty cs fr d hg hu hd hi, run_loadVar_row w g2 t2 ty2 cs2 fr2 d2 hg2 hu2 hd2 hi2]
end
theorem setRow_kp (w : World) (g : Nat) (cs : Array Value) : Kp (fun b => b = g) w (w.setRow g cs) :=
  ⟨rfl, rfl, rfl, by simp [World.setRow], fun b _ hb => setRow_other w g b cs (fun e => hb e)⟩
theorem setRow_below {w W : World} {g : Nat} {cs : Array Value} (h : Below w.heap.size w W) (hg : w.heap.size ≤ g) : Below w.heap.size w (W.setRow g cs) := h.trans ((setRow_kp W g cs).below h.size (fun b hb e => by omega))
theorem dnew_any (cap meet : Int) (w : World) : Calls Try.prog 6 #[.agg #[.int .i64 cap, .int .i64 meet]] w fun e w' =>
    e = .returned (.tuple #[.agg (if cfg cap meet = true then dbv cap meet (.slice none 0 0) (.slice none 0 0) 0 0 else dbv 0 0 (.slice none 0 0) (.slice none 0 0) 0 0), .int .i64 (if cfg cap meet = true then 0 else 1)]) ∧ Below w.heap.size w w' := by
  have CC := hid (fun U => dconfig_any cap meet U)
  obtain ⟨v, hv⟩ : ∃ v, cfg cap meet = v := ⟨_, rfl⟩
  rw [hv] at CC ⊢
  obtain ⟨U0, hU0⟩ : ∃ U0, w.alloc (.cells #[.int .i64 cap, .int .i64 meet] 27) = U0 := ⟨_, rfl⟩
  obtain ⟨W1, hW1⟩ : ∃ W1, U0.alloc (.cells #[.int .i64 0, .int .i64 0, .slice none 0 0, .slice none 0 0, .int .u64 0, .int .u64 0] 30) = W1 := ⟨_, rfl⟩
  have hs0 : U0.heap.size = w.heap.size + 1 := by rw [← hU0]; simp
  have hB : W1.heap[w.heap.size]? = some (.cells #[.int .i64 cap, .int .i64 meet] 27 (0, 0)) := by
    rw [← hW1]; exact row_on (by rw [← hU0]; exact World.alloc_heap_new _ _) (ball _ _)
  have hZ : W1.heap[w.heap.size + 1]? = some (.cells #[.int .i64 0, .int .i64 0, .slice none 0 0, .slice none 0 0, .int .u64 0, .int .u64 0] 30 (0, 0)) := by
    rw [← hW1, ← hs0]; exact World.alloc_heap_new _ _
  have HBW := hid (show Below w.heap.size w W1 from by rw [← hW1, ← hU0]; exact btr (ball _ _) (ball _ _))
  have HZ := hid hZ
  have HB := hid hB
  have HU := hid hU0
  have HW := hid hW1
  have c0 := row_cell hB 0
  have c1 := row_cell hB 1
  simp only [List.getElem?_toArray, List.getElem?_cons_succ, List.getElem?_cons_zero] at c0 c1
  clear hv hU0 hW1 hs0 hB hZ
  cases v with
  | false =>
    go_enter Try.func6, Try.ntmps6
    go_upto_region 1 with fail
    rw [HU.out, HW.out]
    go_upto_region 2 with (go_at_call 16; with_reducible refine (CC.out _).mono ?_; rintro e w1 ⟨rfl, hb1⟩; have HB1 := hid hb1; clear hb1)
    clear c0 c1
    have HZ1 := hid (row_on HZ.out HB1.out)
    have AI := hid (show (Try.prog.info? 30).map (·.size) = some (#[.int .i64 0, .int .i64 0, .slice none 0 0, .slice none 0 0, .int .u64 0, .int .u64 0] : Array Value).size from info32)
    have AS := hid (show (#[.int .i64 0, .int .i64 0, .slice none 0 0, .slice none 0 0, .int .u64 0, .int .u64 0] : Array Value).size = (#[.int .i64 0, .int .i64 0, .slice none 0 0, .slice none 0 0, .int .u64 0, .int .u64 0] : Array Value).size from rfl)
    have AA := hid (show (#[.int .i64 0, .int .i64 0, .slice none 0 0, .slice none 0 0, .int .u64 0, .int .u64 0] : Array Value).all (·.oneCell') = true from by simp [Value.oneCell'])
    go_wp2_with (refine wpList_store_row (by rfl) 30 (.tmp 2) (.tmp 7) (by rfl) (w.heap.size + 1) #[.int .i64 0, .int .i64 0, .slice none 0 0, .slice none 0 0, .int .u64 0, .int .u64 0] (by rfl) (by rfl) 30 _ HZ1.out AI.out AS.out AA.out ?_)
    refine bodyPost_ret (res_ct Try.results6 _ _ (w.heap.size + 1) 30 #[.int .i64 0, .int .i64 0, .slice none 0 0, .slice none 0 0, .int .u64 0, .int .u64 0] (0, 0) _ (.int .i64 1) (by rfl) (by rfl) (setRow_heap _ _ _ _ 30 (0, 0) HZ1.out) Try.underlying30 rfl info32) rfl ⟨rfl, ?_⟩
    exact setRow_below (btr HBW.out HB1.out) (by omega)
  | true =>
    go_enter Try.func6, Try.ntmps6
    go_upto_region 1 with fail
    rw [HU.out, HW.out]
    go_upto_region 3 with (go_at_call 16; with_reducible refine (CC.out _).mono ?_; rintro e w1 ⟨rfl, hb1⟩; have HB1 := hid hb1; clear hb1)
    clear c0 c1
    have HZ1 := hid (row_on HZ.out HB1.out)
    have hB1 := row_on HB.out HB1.out
    have c0 := row_cell hB1 0
    have c1 := row_cell hB1 1
    simp only [List.getElem?_toArray, List.getElem?_cons_succ, List.getElem?_cons_zero] at c0 c1
    clear hB1
    have AI := hid (show (Try.prog.info? 30).map (·.size) = some (#[.int .i64 cap, .int .i64 meet, .slice none 0 0, .slice none 0 0, .int .u64 0, .int .u64 0] : Array Value).size from info32)
    have AS := hid (show (#[.int .i64 0, .int .i64 0, .slice none 0 0, .slice none 0 0, .int .u64 0, .int .u64 0] : Array Value).size = (#[.int .i64 cap, .int .i64 meet, .slice none 0 0, .slice none 0 0, .int .u64 0, .int .u64 0] : Array Value).size from rfl)
    have AA := hid (show (#[.int .i64 cap, .int .i64 meet, .slice none 0 0, .slice none 0 0, .int .u64 0, .int .u64 0] : Array Value).all (·.oneCell') = true from by simp [Value.oneCell'])
    go_wp2_with (refine wpList_store_row (by rfl) 30 (.tmp 2) (.tmp 9) (by rfl) (w.heap.size + 1) #[.int .i64 cap, .int .i64 meet, .slice none 0 0, .slice none 0 0, .int .u64 0, .int .u64 0] (by rfl) (by rfl) 30 _ HZ1.out AI.out AS.out AA.out ?_)
    refine bodyPost_ret (res_ct Try.results6 _ _ (w.heap.size + 1) 30 #[.int .i64 cap, .int .i64 meet, .slice none 0 0, .slice none 0 0, .int .u64 0, .int .u64 0] (0, 0) _ (.int .i64 0) (by rfl) (by rfl) (setRow_heap _ _ _ _ 30 (0, 0) HZ1.out) Try.underlying30 rfl info32) rfl ⟨rfl, ?_⟩
    exact setRow_below (btr HBW.out HB1.out) (by omega)
end Go.Proofs.Ythdikkchblmebaa
