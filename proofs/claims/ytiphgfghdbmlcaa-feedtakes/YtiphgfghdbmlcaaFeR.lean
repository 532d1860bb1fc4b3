/-
  Rows written and read back.
-/
import Derived.Test.YtiphgfghdbmlcaaFeC
namespace Go.Proofs.Ytiphgfghdbmlcaa
open Go.RowKit Go.Deep
set_option linter.unusedVariables false
set_option linter.unusedSimpArgs false
set_option maxHeartbeats 1000000
set_option maxRecDepth 100000
section
variable {P : Program}
theorem res_ct {fn : Func} {p q : Tmp} {ty : TypeId} (h : fn.results = #[.cell p ty, .tmp q]) (tmps : Array Value) (w : World) (g : Nat) (t : TypeId) (cs : Array Value) (fr : Nat × Nat) (d : TypeDesc) (v : Value)
    (hp : tmps.getD p undef = .pointer (some ⟨g, 0, none⟩)) (hq : tmps.getD q undef = v) (hg : w.heap[g]? = some (.cells cs t fr))
    (hu : P.underlying ty = some d) (hd : (match d with | .struct _ | .array _ _ => true | _ => false) = true) (hi : (P.info? ty).map (·.size) = some cs.size) :
    (results fn tmps).run P w = .ok (.tuple #[.agg cs, v]) w := by
  have hp' : tmps[p]?.getD undef = .pointer (some ⟨g, 0, none⟩) := by simpa using hp
  have hq' : tmps[q]?.getD undef = v := by simpa using hq
  simp [results, h, hp', hq', asAddr, run_loadVar_row w g t ty cs fr d hg hu hd hi]
theorem res_tct {fn : Func} {p0 p q : Tmp} {ty : TypeId} (h : fn.results = #[.tmp p0, .cell p ty, .tmp q]) (tmps : Array Value) (w : World) (g : Nat) (t : TypeId) (cs : Array Value) (fr : Nat × Nat) (d : TypeDesc) (u v : Value)
    (hp0 : tmps.getD p0 undef = u) (hp : tmps.getD p undef = .pointer (some ⟨g, 0, none⟩)) (hq : tmps.getD q undef = v) (hg : w.heap[g]? = some (.cells cs t fr))
    (hu : P.underlying ty = some d) (hd : (match d with | .struct _ | .array _ _ => true | _ => false) = true) (hi : (P.info? ty).map (·.size) = some cs.size) :
    (results fn tmps).run P w = .ok (.tuple #[u, .agg cs, v]) w := by
  have hp' : tmps[p]?.getD undef = .pointer (some ⟨g, 0, none⟩) := by simpa using hp
  have hq' : tmps[q]?.getD undef = v := by simpa using hq
  have hp0' : tmps[p0]?.getD undef = u := by simpa using hp0
  simp [results, h, hp', hq', hp0', asAddr, run_loadVar_row w g t ty cs fr d hg hu hd hi]
theorem res_cct {fn : Func} {p p2 q : Tmp} {ty ty2 : TypeId} (h : fn.results = #[.cell p ty, .cell p2 ty2, .tmp q]) (tmps : Array Value) (w : World) (g g2 : Nat) (t t2 : TypeId) (cs cs2 : Array Value) (fr fr2 : Nat × Nat) (d d2 : TypeDesc) (v : Value)
    (hp : tmps.getD p undef = .pointer (some ⟨g, 0, none⟩)) (hp2 : tmps.getD p2 undef = .pointer (some ⟨g2, 0, none⟩)) (hq : tmps.getD q undef = v) (hg : w.heap[g]? = some (.cells cs t fr)) (hg2 : w.heap[g2]? = some (.cells cs2 t2 fr2))
    (hu : P.underlying ty = some d) (hd : (match d with | .struct _ | .array _ _ => true | _ => false) = true) (hi : (P.info? ty).map (·.size) = some cs.size)
    (hu2 : P.underlying ty2 = some d2) (hd2 : (match d2 with | .struct _ | .array _ _ => true | _ => false) = true) (hi2 : (P.info? ty2).map (·.size) = some cs2.size) :
    (results fn tmps).run P w = .ok (.tuple #[.agg cs, .agg cs2, v]) w := by
  have hp' : tmps[p]?.getD undef = .pointer (some ⟨g, 0, none⟩) := by simpa using hp
  have hp2' : tmps[p2]?.getD undef = .pointer (some ⟨g2, 0, none⟩) := by simpa using hp2
  have hq' : tmps[q]?.getD undef = v := by simpa using hq
  simp [results, h, hp', hp2', hq', asAddr, run_loadVar_row w g t ty cs fr d hg hu hd hi, run_loadVar_row w g2 t2 ty2 cs2 fr2 d2 hg2 hu2 hd2 hi2]
end
theorem own_geP {base : Nat} {w : World} {e : TypeId} {size n c : Nat} {p : Option Addr} {xs : List Value} (h : w.ownsRow base e size (.slice p n c) n xs) {g : Nat} (hg : OfP p g) : base ≤ g := by
  subst hg
  obtain ⟨_, ⟨e1, _⟩ | ⟨g', c', cur, e1, r1, _⟩⟩ := h
  · cases (Value.slice.inj e1).1
  · have := (Value.slice.inj e1).1
    injection this with this
    injection this with this
    omega
theorem setRow_kp (w : World) (g : Nat) (cs : Array Value) : Kp (fun b => b = g) w (w.setRow g cs) :=
  ⟨rfl, rfl, rfl, by simp [World.setRow], fun b _ hb => setRow_other w g b cs (fun e => hb e)⟩
theorem setRow_below {w W : World} {g : Nat} {cs : Array Value} (h : Below w.heap.size w W) (hg : w.heap.size ≤ g) : Below w.heap.size w (W.setRow g cs) := h.trans ((setRow_kp W g cs).below h.size (fun b hb e => by omega))
/-- a count fits. -/
def Ct (x : Int) : Prop := x < 9223372036854775808
theorem infoF : (Try.prog.info? 70).map (·.size) = some 8 := by kernel_rfl
theorem infoD : (Try.prog.info? 48).map (·.size) = some 6 := by kernel_rfl
theorem row6 {w : World} {g : Nat} {t : TypeId} {a0 a1 a2 a3 a4 a5 : Value} (h : w.heap[g]? = some (.cells #[a0, a1, a2, a3, a4, a5] t (0, 0))) : w.cell? ⟨g, 0, none⟩ = some a0 ∧ w.cell? ⟨g, 1, none⟩ = some a1 ∧ w.cell? ⟨g, 2, none⟩ = some a2 ∧ w.cell? ⟨g, 3, none⟩ = some a3 ∧ w.cell? ⟨g, 4, none⟩ = some a4 ∧ w.cell? ⟨g, 5, none⟩ = some a5 :=
  ⟨row_cell h 0, row_cell h 1, row_cell h 2, row_cell h 3, row_cell h 4, row_cell h 5⟩
theorem alloc2 {w W : World} {o1 o2 : Obj} {R : Nat} (hR : w.heap.size = R) (hW : (w.alloc o1).alloc o2 = W) : Below w.heap.size w W ∧ (∀ c t, o1 = .cells c t (0, 0) → W.heap[R]? = some (.cells c t (0, 0))) ∧ (∀ c t, o2 = .cells c t (0, 0) → W.heap[R + 1]? = some (.cells c t (0, 0))) ∧ W.heap.size = R + 2 := by
  rw [← hW, ← hR]
  refine ⟨btr (ball _ _) (ball _ _), fun c t e => ?_, fun c t e => ?_, by simp⟩
  · rw [← e]; exact row_on (World.alloc_heap_new _ _) (ball _ _)
  · have := World.alloc_heap_new (w.alloc o1) o2
    rw [← e]; simpa using this
theorem framed_ok (d : Dm) (h : dOk d = true) (hc : Ct d.ct) (w : World) : Calls Try.prog 47 #[.agg #[.int .u64 d.sq, .int .i64 d.kd, .int .i64 d.sd, .int .i64 d.pr, .int .u64 d.qt, .int .i64 d.ct]] w fun e w' => e = .returned (.agg #[.int .u8 (79 + d.kd), .int .u64 d.sq, .int .u64 d.sd, .int .u64 d.pr, .int .u64 d.qt, .int .u64 d.ct, .int .u64 0, .int .u64 0]) ∧ Below w.heap.size w w' := by
  have h' := (dOk_iff d).1 h
  have a1 : 1 ≤ d.kd := by omega
  have a2 : d.kd ≤ 2 := by omega
  have a3 : 1 ≤ d.sd := by omega
  have a4 : d.sd ≤ 2 := by omega
  have a5 : 0 ≤ d.pr := by omega
  have a6 : d.pr < 262144 := by omega
  have a7 : 0 ≤ d.ct := by omega
  have a8 : d.ct < 9223372036854775808 := hc
  clear h' h hc
  go_enter Try.func47, Try.ntmps47
  go_wp2
  refine bodyPost_ret (v := .agg #[.int .u8 (79 + d.kd), .int .u64 d.sq, .int .u64 d.sd, .int .u64 d.pr, .int .u64 d.qt, .int .u64 d.ct, .int .u64 0, .int .u64 0]) (by simp [results, Try.results47, go_sem, *]) rfl ⟨rfl, ?_⟩
  exact btr (ball _ _) (ball _ _)
theorem pack_ok (d : Dm) (h : dOk d = true) (hc : Ct d.ct) (w : World) : Calls Try.prog 21 #[.agg #[.int .u64 d.sq, .int .i64 d.kd, .int .i64 d.sd, .int .i64 d.pr, .int .u64 d.qt, .int .i64 d.ct]] w fun e w' => e = .returned (.tuple #[.agg #[.int .u8 (79 + d.kd), .int .u64 d.sq, .int .u64 d.sd, .int .u64 d.pr, .int .u64 d.qt, .int .u64 d.ct, .int .u64 0, .int .u64 0], .int .i64 0]) ∧ Below w.heap.size w w' := by
  have C := hid (fun U => canBe_any d U)
  rw [h] at C
  have FR := hid (fun U => framed_ok d h hc U)
  obtain ⟨R, hR⟩ : ∃ R, w.heap.size = R := ⟨_, rfl⟩
  obtain ⟨W, hW⟩ : ∃ W, (w.alloc (.cells #[.int .u64 d.sq, .int .i64 d.kd, .int .i64 d.sd, .int .i64 d.pr, .int .u64 d.qt, .int .i64 d.ct] 48)).alloc (.cells #[.int .u8 0, .int .u64 0, .int .u64 0, .int .u64 0, .int .u64 0, .int .u64 0, .int .u64 0, .int .u64 0] 70) = W := ⟨_, rfl⟩
  obtain ⟨hb0, x0, x1, _⟩ := alloc2 hR hW
  have HB0 := hid hb0
  have HD := hid (x0 _ _ rfl)
  have HZ := hid (x1 _ _ rfl)
  have HW := hid hW
  have HR := hid hR
  have AS := hid (show (#[.int .u8 0, .int .u64 0, .int .u64 0, .int .u64 0, .int .u64 0, .int .u64 0, .int .u64 0, .int .u64 0] : Array Value).size = (#[.int .u8 (79 + d.kd), .int .u64 d.sq, .int .u64 d.sd, .int .u64 d.pr, .int .u64 d.qt, .int .u64 d.ct, .int .u64 0, .int .u64 0] : Array Value).size from rfl)
  have AI := hid (show (Try.prog.info? 70).map (·.size) = some (#[.int .u8 (79 + d.kd), .int .u64 d.sq, .int .u64 d.sd, .int .u64 d.pr, .int .u64 d.qt, .int .u64 d.ct, .int .u64 0, .int .u64 0] : Array Value).size from infoF)
  have AA := hid (show (#[.int .u8 (79 + d.kd), .int .u64 d.sq, .int .u64 d.sd, .int .u64 d.pr, .int .u64 d.qt, .int .u64 d.ct, .int .u64 0, .int .u64 0] : Array Value).all (·.oneCell') = true from by simp [Value.oneCell'])
  obtain ⟨c0, c1, c2, c3, c4, c5⟩ := row6 HD.out
  clear h hc hb0 x0 x1 hW hR
  go_enter Try.func21, Try.ntmps21
  go_upto_region 1 with fail
  rw [HW.out, HR.out]
  go_wp2_with (first | (go_at_call 46; with_reducible refine (C.out _).mono ?_; rintro e w1 ⟨rfl, hb⟩; have HB1 := hid hb; obtain ⟨c0, c1, c2, c3, c4, c5⟩ := row6 (row_on HD.out hb); clear hb) | (go_at_call 47; with_reducible refine (FR.out _).mono ?_; rintro e w2 ⟨rfl, hb⟩; have HB2 := hid hb; have HZ2 := hid (row_on (row_on HZ.out HB1.out) hb); clear hb) | (refine wpList_store_row (by rfl) 70 (.tmp 2) (.tmp 9) (by rfl) (R + 1) #[.int .u8 (79 + d.kd), .int .u64 d.sq, .int .u64 d.sd, .int .u64 d.pr, .int .u64 d.qt, .int .u64 d.ct, .int .u64 0, .int .u64 0] (by rfl) (by rfl) 70 _ HZ2.out AI.out AS.out AA.out ?_))
  refine bodyPost_ret (res_ct (fn := Try.f21) Try.results21 _ _ (R + 1) 70 #[.int .u8 (79 + d.kd), .int .u64 d.sq, .int .u64 d.sd, .int .u64 d.pr, .int .u64 d.qt, .int .u64 d.ct, .int .u64 0, .int .u64 0] (0, 0) _ (.int .i64 0) (by rfl) (by rfl) (setRow_heap _ _ _ _ 70 (0, 0) HZ2.out) Try.underlying70 rfl infoF) rfl ⟨rfl, ?_⟩
  exact setRow_below (btr (btr HB0.out HB1.out) HB2.out) (by have := HR.out; omega)
theorem pack_no (d : Dm) (h : dOk d = false) (w : World) : Calls Try.prog 21 #[.agg #[.int .u64 d.sq, .int .i64 d.kd, .int .i64 d.sd, .int .i64 d.pr, .int .u64 d.qt, .int .i64 d.ct]] w fun e w' => e = .returned (.tuple #[.agg #[.int .u8 0, .int .u64 0, .int .u64 0, .int .u64 0, .int .u64 0, .int .u64 0, .int .u64 0, .int .u64 0], .int .i64 40]) ∧ Below w.heap.size w w' := by
  have C := hid (fun U => canBe_any d U)
  rw [h] at C
  obtain ⟨R, hR⟩ : ∃ R, w.heap.size = R := ⟨_, rfl⟩
  obtain ⟨W, hW⟩ : ∃ W, (w.alloc (.cells #[.int .u64 d.sq, .int .i64 d.kd, .int .i64 d.sd, .int .i64 d.pr, .int .u64 d.qt, .int .i64 d.ct] 48)).alloc (.cells #[.int .u8 0, .int .u64 0, .int .u64 0, .int .u64 0, .int .u64 0, .int .u64 0, .int .u64 0, .int .u64 0] 70) = W := ⟨_, rfl⟩
  obtain ⟨hb0, x0, x1, _⟩ := alloc2 hR hW
  have HB0 := hid hb0
  have HD := hid (x0 _ _ rfl)
  have HZ := hid (x1 _ _ rfl)
  have HW := hid hW
  have HR := hid hR
  have AS := hid (show (#[.int .u8 0, .int .u64 0, .int .u64 0, .int .u64 0, .int .u64 0, .int .u64 0, .int .u64 0, .int .u64 0] : Array Value).size = (#[.int .u8 0, .int .u64 0, .int .u64 0, .int .u64 0, .int .u64 0, .int .u64 0, .int .u64 0, .int .u64 0] : Array Value).size from rfl)
  have AI := hid (show (Try.prog.info? 70).map (·.size) = some (#[.int .u8 0, .int .u64 0, .int .u64 0, .int .u64 0, .int .u64 0, .int .u64 0, .int .u64 0, .int .u64 0] : Array Value).size from infoF)
  have AA := hid (show (#[.int .u8 0, .int .u64 0, .int .u64 0, .int .u64 0, .int .u64 0, .int .u64 0, .int .u64 0, .int .u64 0] : Array Value).all (·.oneCell') = true from by simp [Value.oneCell'])
  obtain ⟨c0, c1, c2, c3, c4, c5⟩ := row6 HD.out
  clear h hb0 x0 x1 hW hR
  go_enter Try.func21, Try.ntmps21
  go_upto_region 1 with fail
  rw [HW.out, HR.out]
  go_wp2_with (first | (go_at_call 46; with_reducible refine (C.out _).mono ?_; rintro e w1 ⟨rfl, hb⟩; have HB1 := hid hb; have HZ2 := hid (row_on HZ.out hb); clear hb) | (refine wpList_store_row (by rfl) 70 (.tmp 2) (.tmp 7) (by rfl) (R + 1) #[.int .u8 0, .int .u64 0, .int .u64 0, .int .u64 0, .int .u64 0, .int .u64 0, .int .u64 0, .int .u64 0] (by rfl) (by rfl) 70 _ HZ2.out AI.out (by rfl) AA.out ?_))
  refine bodyPost_ret (res_ct (fn := Try.f21) Try.results21 _ _ (R + 1) 70 #[.int .u8 0, .int .u64 0, .int .u64 0, .int .u64 0, .int .u64 0, .int .u64 0, .int .u64 0, .int .u64 0] (0, 0) _ (.int .i64 40) (by rfl) (by rfl) (setRow_heap _ _ _ _ 70 (0, 0) HZ2.out) Try.underlying70 rfl infoF) rfl ⟨rfl, ?_⟩
  exact setRow_below (btr HB0.out HB1.out) (by have := HR.out; omega)
theorem rpack_no (d : Dm) (h : dOk d = false) (w : World) : Calls Try.prog 22 #[.agg #[.int .u64 d.sq, .int .i64 d.kd, .int .i64 d.sd, .int .i64 d.pr, .int .u64 d.qt, .int .i64 d.ct]] w fun e w' => e = .returned (.tuple #[.agg #[.int .u8 0, .int .u64 0, .int .u64 0, .int .u64 0, .int .u64 0, .int .u64 0, .int .u64 0, .int .u64 0], .int .i64 40]) ∧ Below w.heap.size w w' := by
  have C := hid (fun U => message_any d U)
  rw [h] at C
  obtain ⟨R, hR⟩ : ∃ R, w.heap.size = R := ⟨_, rfl⟩
  obtain ⟨W, hW⟩ : ∃ W, (w.alloc (.cells #[.int .u64 d.sq, .int .i64 d.kd, .int .i64 d.sd, .int .i64 d.pr, .int .u64 d.qt, .int .i64 d.ct] 48)).alloc (.cells #[.int .u8 0, .int .u64 0, .int .u64 0, .int .u64 0, .int .u64 0, .int .u64 0, .int .u64 0, .int .u64 0] 70) = W := ⟨_, rfl⟩
  obtain ⟨hb0, x0, x1, _⟩ := alloc2 hR hW
  have HB0 := hid hb0
  have HD := hid (x0 _ _ rfl)
  have HZ := hid (x1 _ _ rfl)
  have HW := hid hW
  have HR := hid hR
  have AS := hid (show (#[.int .u8 0, .int .u64 0, .int .u64 0, .int .u64 0, .int .u64 0, .int .u64 0, .int .u64 0, .int .u64 0] : Array Value).size = (#[.int .u8 0, .int .u64 0, .int .u64 0, .int .u64 0, .int .u64 0, .int .u64 0, .int .u64 0, .int .u64 0] : Array Value).size from rfl)
  have AI := hid (show (Try.prog.info? 70).map (·.size) = some (#[.int .u8 0, .int .u64 0, .int .u64 0, .int .u64 0, .int .u64 0, .int .u64 0, .int .u64 0, .int .u64 0] : Array Value).size from infoF)
  have AA := hid (show (#[.int .u8 0, .int .u64 0, .int .u64 0, .int .u64 0, .int .u64 0, .int .u64 0, .int .u64 0, .int .u64 0] : Array Value).all (·.oneCell') = true from by simp [Value.oneCell'])
  obtain ⟨c0, c1, c2, c3, c4, c5⟩ := row6 HD.out
  clear h hb0 x0 x1 hW hR
  go_enter Try.func22, Try.ntmps22
  go_upto_region 1 with fail
  rw [HW.out, HR.out]
  go_wp2_with (first | (go_at_call 31; with_reducible refine (C.out _).mono ?_; rintro e w1 ⟨rfl, hb⟩; have HB1 := hid hb; have HZ2 := hid (row_on HZ.out hb); clear hb) | (refine wpList_store_row (by rfl) 70 (.tmp 2) (.tmp 7) (by rfl) (R + 1) #[.int .u8 0, .int .u64 0, .int .u64 0, .int .u64 0, .int .u64 0, .int .u64 0, .int .u64 0, .int .u64 0] (by rfl) (by rfl) 70 _ HZ2.out AI.out (by rfl) AA.out ?_))
  refine bodyPost_ret (res_ct (fn := Try.f22) Try.results22 _ _ (R + 1) 70 #[.int .u8 0, .int .u64 0, .int .u64 0, .int .u64 0, .int .u64 0, .int .u64 0, .int .u64 0, .int .u64 0] (0, 0) _ (.int .i64 40) (by rfl) (by rfl) (setRow_heap _ _ _ _ 70 (0, 0) HZ2.out) Try.underlying70 rfl infoF) rfl ⟨rfl, ?_⟩
  exact setRow_below (btr HB0.out HB1.out) (by have := HR.out; omega)
theorem rpack_ok (d : Dm) (h : dOk d = true) (hc : Ct d.ct) (w : World) : Calls Try.prog 22 #[.agg #[.int .u64 d.sq, .int .i64 d.kd, .int .i64 d.sd, .int .i64 d.pr, .int .u64 d.qt, .int .i64 d.ct]] w fun e w' => e = .returned (.tuple #[.agg #[.int .u8 (79 + d.kd), .int .u64 d.sq, .int .u64 d.sd, .int .u64 d.pr, .int .u64 d.qt, .int .u64 d.ct, .int .u64 0, .int .u64 0], .int .i64 0]) ∧ Below w.heap.size w w' := by
  have C := hid (fun U => message_any d U)
  rw [h] at C
  have h' := (dOk_iff d).1 h
  have a1 : 1 ≤ d.kd := by omega
  have a2 : d.kd ≤ 2 := by omega
  have a3 : 1 ≤ d.sd := by omega
  have a4 : d.sd ≤ 2 := by omega
  have a5 : 0 ≤ d.pr := by omega
  have a6 : d.pr < 262144 := by omega
  have a7 : 0 ≤ d.ct := by omega
  have a8 : d.ct < 9223372036854775808 := hc
  obtain ⟨R, hR⟩ : ∃ R, w.heap.size = R := ⟨_, rfl⟩
  obtain ⟨W, hW⟩ : ∃ W, (w.alloc (.cells #[.int .u64 d.sq, .int .i64 d.kd, .int .i64 d.sd, .int .i64 d.pr, .int .u64 d.qt, .int .i64 d.ct] 48)).alloc (.cells #[.int .u8 0, .int .u64 0, .int .u64 0, .int .u64 0, .int .u64 0, .int .u64 0, .int .u64 0, .int .u64 0] 70) = W := ⟨_, rfl⟩
  obtain ⟨hb0, x0, x1, _⟩ := alloc2 hR hW
  have HB0 := hid hb0
  have HD := hid (x0 _ _ rfl)
  have HZ := hid (x1 _ _ rfl)
  have HW := hid hW
  have HR := hid hR
  have AS := hid (show (#[.int .u8 0, .int .u64 0, .int .u64 0, .int .u64 0, .int .u64 0, .int .u64 0, .int .u64 0, .int .u64 0] : Array Value).size = (#[.int .u8 (79 + d.kd), .int .u64 d.sq, .int .u64 d.sd, .int .u64 d.pr, .int .u64 d.qt, .int .u64 d.ct, .int .u64 0, .int .u64 0] : Array Value).size from rfl)
  have AI := hid (show (Try.prog.info? 70).map (·.size) = some (#[.int .u8 (79 + d.kd), .int .u64 d.sq, .int .u64 d.sd, .int .u64 d.pr, .int .u64 d.qt, .int .u64 d.ct, .int .u64 0, .int .u64 0] : Array Value).size from infoF)
  have AA := hid (show (#[.int .u8 (79 + d.kd), .int .u64 d.sq, .int .u64 d.sd, .int .u64 d.pr, .int .u64 d.qt, .int .u64 d.ct, .int .u64 0, .int .u64 0] : Array Value).all (·.oneCell') = true from by simp [Value.oneCell'])
  obtain ⟨c0, c1, c2, c3, c4, c5⟩ := row6 HD.out
  clear h h' hc hb0 x0 x1 hW hR
  go_enter Try.func22, Try.ntmps22
  go_upto_region 1 with fail
  rw [HW.out, HR.out]
  go_wp2_with (first | (go_at_call 31; with_reducible refine (C.out _).mono ?_; rintro e w1 ⟨rfl, hb⟩; have HB1 := hid hb; have HZ2 := hid (row_on HZ.out hb); obtain ⟨c0, c1, c2, c3, c4, c5⟩ := row6 (row_on HD.out hb); clear hb) | (refine wpList_store_row (by rfl) 70 (.tmp 2) (.tmp 26) (by rfl) (R + 1) #[.int .u8 (79 + d.kd), .int .u64 d.sq, .int .u64 d.sd, .int .u64 d.pr, .int .u64 d.qt, .int .u64 d.ct, .int .u64 0, .int .u64 0] (by rfl) (by rfl) 70 _ HZ2.out AI.out AS.out AA.out ?_))
  refine bodyPost_ret (res_ct (fn := Try.f22) Try.results22 _ _ (R + 1) 70 #[.int .u8 (79 + d.kd), .int .u64 d.sq, .int .u64 d.sd, .int .u64 d.pr, .int .u64 d.qt, .int .u64 d.ct, .int .u64 0, .int .u64 0] (0, 0) _ (.int .i64 0) (by rfl) (by rfl) (setRow_heap _ _ _ _ 70 (0, 0) HZ2.out) Try.underlying70 rfl infoF) rfl ⟨rfl, ?_⟩
  exact setRow_below (btr HB0.out HB1.out) (by have := HR.out; omega)
end Go.Proofs.Ytiphgfghdbmlcaa
