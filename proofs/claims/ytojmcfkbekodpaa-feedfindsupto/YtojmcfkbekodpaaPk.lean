/-
  Messages that can be; their frames.
-/
import Derived.Test.YtojmcfkbekodpaaPj
namespace Go.Proofs.Ytojmcfkbekodpaa.Fd
open Go.RowKit Go.Deep
set_option linter.unusedVariables false
set_option linter.unusedSimpArgs false
set_option maxHeartbeats 1000000
set_option maxRecDepth 100000
theorem dOk_iff (d : Dm) : dOk d = true ↔ (1 ≤ d.sq ∧ (d.sd = 1 ∨ d.sd = 2) ∧ (0 ≤ d.pr ∧ d.pr < 262144) ∧ ((d.kd = 1 ∧ ((d.qt = 0 ∧ d.ct = 0) ∨ (1 ≤ d.qt ∧ 1 ≤ d.ct))) ∨ (d.kd = 2 ∧ 1 ≤ d.qt ∧ d.ct = 0))) := by simp only [dOk, decide_eq_true_eq]
end Go.Proofs.Ytojmcfkbekodpaa.Fd
namespace Go.Proofs.Ytojmcfkbekodpaa.Fd
open Go.RowKit Go.Deep
set_option linter.unusedVariables false
set_option linter.unusedSimpArgs false
set_option maxHeartbeats 1000000
set_option maxRecDepth 100000
section
variable {P : Program}
theorem res_ct {fn : Func} {p q : Tmp} {ty : TypeId} (h : fn.results = #[.cell p ty, .tmp q]) (tmps : Array Value) (w : World) (g : Nat) (t : TypeId) (cs : Array Value) (fr : Nat × Nat) (d : TypeDesc) (v : Value)
    (hp : tmps.getD p undef = .pointer (some ⟨g, 0, none⟩)) (hq : tmps.getD q undef = v) (hg : w.heap[g]? = some (.cells cs t fr))
    (hu : P.underlying ty = some d) (hd : (match d with | .struct _ | .array _ _ => true | _ => false) = true) (hi : (P.info? ty).map (·.size) = some cs.size) :
    (results fn tmps).run P w = .ok (.tuple #[.agg cs, v]) w := by
  have hp' : tmps[p]?.getD undef = .pointer (some ⟨g, 0, none⟩) := by simpa using hp
  have hq' : tmps[q]?.getD undef = v := by simpa using hq
  simp [results, h, hp', hq', asAddr, run_loadVar_row w g t ty cs fr d hg hu hd hi]
theorem res_tct {fn : Func} {p0 p q : Tmp} {ty : TypeId} (h : fn.results = #[.tmp p0, .cell p ty, .tmp q]) (tmps : Array Value) (w : World) (g : Nat) (t : TypeId) (cs : Array Value) (fr : Nat × Nat) (d : TypeDesc) (u v : Value)
    (hp0 : tmps.getD p0 undef = u) (hp : tmps.getD p undef = .pointer (some ⟨g, 0, none⟩)) (hq : tmps.getD q undef = v) (hg : w.heap[g]? = some (.cells cs t fr))
    (hu : P.underlying ty = some d) (hd : (match d with | .struct _ | .array _ _ => true | _ => false) = true) (hi : (P.info? ty).map (·.size) = some cs.size) :
    (results fn tmps).run P w = .ok (.tuple #[u, .agg cs, v]) w := by
  have hp' : tmps[p]?.getD undef = .pointer (some ⟨g, 0, none⟩) := by simpa using hp
  have hq' : tmps[q]?.getD undef = v := by simpa using hq
  have hp0' : tmps[p0]?.getD undef = u := by simpa using hp0
  simp [results, h, hp', hq', hp0', asAddr, run_loadVar_row w g t ty cs fr d hg hu hd hi]
theorem res_cct {fn : Func} {p p2 q : Tmp} {ty ty2 : TypeId} (h : fn.results = #[.cell p ty, .cell p2 ty2, .tmp q]) (tmps : Array Value) (w : World) (g g2 : Nat) (t t2 : TypeId) (cs cs2 : Array Value) (fr fr2 : Nat × Nat) (d d2 : TypeDesc) (v : Value)
    (hp : tmps.getD p undef = .pointer (some ⟨g, 0, none⟩)) (hp2 : tmps.getD p2 undef = .pointer (some ⟨g2, 0, none⟩)) (hq : tmps.getD q undef = v) (hg : w.heap[g]? = some (.cells cs t fr)) (hg2 : w.heap[g2]? = some (.cells cs2 t2 fr2))
    (hu : P.underlying ty = some d) (hd : (match d with | .struct _ | .array _ _ => true | _ => false) = true) (hi : (P.info? ty).map (·.size) = some cs.size)
    (hu2 : P.underlying ty2 = some d2) (hd2 : (match d2 with | .struct _ | .array _ _ => true | _ => false) = true) (hi2 : (P.info? ty2).map (·.size) = some cs2.size) :
    (results fn tmps).run P w = .ok (.tuple #[.agg cs, .agg cs2, v]) w := by
  have hp' : tmps[p]?.getD undef = .pointer (some ⟨g, 0, none⟩) := by simpa using hp
  have hp2' : tmps[p2]?.getD undef = .pointer (some ⟨g2, 0, none⟩) := by simpa using hp2
  have hq' : tmps[q]?.getD undef = v := by simpa using hq
  simp [results, h, hp', hp2', hq', asAddr, run_loadVar_row w g t ty cs fr d hg hu hd hi, run_loadVar_row w g2 t2 ty2 cs2 fr2 d2 hg2 hu2 hd2 hi2]
end
theorem own_geP {base : Nat} {w : World} {e : TypeId} {size n c : Nat} {p : Option Addr} {xs : List Value} (h : w.ownsRow base e size (.slice p n c) n xs) {g : Nat} (hg : OfP p g) : base ≤ g := by
  subst hg
  obtain ⟨_, ⟨e1, _⟩ | ⟨g', c', cur, e1, r1, _⟩⟩ := h
  · cases (Value.slice.inj e1).1
  · have := (Value.slice.inj e1).1
    injection this with this
    injection this with this
    omega
theorem setRow_kp (w : World) (g : Nat) (cs : Array Value) : Kp (fun b => b = g) w (w.setRow g cs) :=
  ⟨rfl, rfl, rfl, by simp [World.setRow], fun b _ hb => setRow_other w g b cs (fun e => hb e)⟩
theorem setRow_below {w W : World} {g : Nat} {cs : Array Value} (h : Below w.heap.size w W) (hg : w.heap.size ≤ g) : Below w.heap.size w (W.setRow g cs) := h.trans ((setRow_kp W g cs).below h.size (fun b hb e => by omega))
/-- a count fits. -/
def Ct (x : Int) : Prop := x < 9223372036854775808
theorem infoD : (Try.prog.info? 47).map (·.size) = some 6 := by kernel_rfl
theorem row6 {w : World} {g : Nat} {t : TypeId} {a0 a1 a2 a3 a4 a5 : Value} (h : w.heap[g]? = some (.cells #[a0, a1, a2, a3, a4, a5] t (0, 0))) : w.cell? ⟨g, 0, none⟩ = some a0 ∧ w.cell? ⟨g, 1, none⟩ = some a1 ∧ w.cell? ⟨g, 2, none⟩ = some a2 ∧ w.cell? ⟨g, 3, none⟩ = some a3 ∧ w.cell? ⟨g, 4, none⟩ = some a4 ∧ w.cell? ⟨g, 5, none⟩ = some a5 :=
  ⟨row_cell h 0, row_cell h 1, row_cell h 2, row_cell h 3, row_cell h 4, row_cell h 5⟩
theorem alloc2 {w W : World} {o1 o2 : Obj} {R : Nat} (hR : w.heap.size = R) (hW : (w.alloc o1).alloc o2 = W) : Below w.heap.size w W ∧ (∀ c t, o1 = .cells c t (0, 0) → W.heap[R]? = some (.cells c t (0, 0))) ∧ (∀ c t, o2 = .cells c t (0, 0) → W.heap[R + 1]? = some (.cells c t (0, 0))) ∧ W.heap.size = R + 2 := by
  rw [← hW, ← hR]
  refine ⟨btr (ball _ _) (ball _ _), fun c t e => ?_, fun c t e => ?_, by simp⟩
  · rw [← e]; exact row_on (World.alloc_heap_new _ _) (ball _ _)
  · have := World.alloc_heap_new (w.alloc o1) o2
    rw [← e]; simpa using this
end Go.Proofs.Ytojmcfkbekodpaa.Fd
namespace Go.Proofs.Ytojmcfkbekodpaa.Fd
open Go.RowKit Go.Deep
set_option linter.unusedVariables false
set_option linter.unusedSimpArgs false
set_option maxHeartbeats 1000000
set_option maxRecDepth 100000
theorem eqF_nil (d : Nat) (xs ys : Array Value) (w : World) : (Op.eqFields d xs ys []).run Try.prog w = .ok true w := by simp [Op.eqFields]
theorem eqF_any (d : Nat) (xs ys : Array Value) (f : Field) (fs : List Field) (u v : Value) (c : Bool) {r : Bool} {w : World} (hn : f.name ≠ "_") (hx : (part f.type xs f.offset).run Try.prog w = .ok u w) (hy : (part f.type ys f.offset).run Try.prog w = .ok v w)
    (hq : (Op.equalIn d f.type u v).run Try.prog w = .ok c w) (hr : (Op.eqFields d xs ys fs).run Try.prog w = .ok r w) : (Op.eqFields d xs ys (f :: fs)).run Try.prog w = .ok (c && r) w := by
  simp only [Op.eqFields, if_pos hn, Sem.run_bind, hx, hy, hq, Result.andThen_ok, Sem.run_ite]
  cases c
  · simp
  · simp [hr]
theorem eqF_cons (d : Nat) (xs ys : Array Value) (f : Field) (fs : List Field) (k k' : IntKind) (a b : Int) {r : Bool} {w : World} (hn : f.name ≠ "_") (hx : (part f.type xs f.offset).run Try.prog w = .ok (.int k a) w) (hy : (part f.type ys f.offset).run Try.prog w = .ok (.int k b) w)
    (hu : Try.prog.underlying f.type = some (.int k')) (hr : (Op.eqFields (d + 1) xs ys fs).run Try.prog w = .ok r w) : (Op.eqFields (d + 1) xs ys (f :: fs)).run Try.prog w = .ok ((a == b) && r) w :=
  eqF_any (d + 1) xs ys f fs _ _ (a == b) hn hx hy (run_equalIn_int w d f.type k k' a b hu) hr
theorem part_int (t : TypeId) (xs : Array Value) (o : Nat) (v : Value) (ha : ∀ w, (isAgg t).run Try.prog w = .ok false w) (h : xs[o]? = some v) (w : World) : (part t xs o).run Try.prog w = .ok v w := by
  simp [part, Sem.run_bind, ha, h]
theorem underL : Try.prog.underlying 71 = some (.struct (Try.prog.fieldsOf 71)) := by kernel_rfl
theorem underD : Try.prog.underlying 47 = some (.struct (Try.prog.fieldsOf 47)) := by kernel_rfl
theorem stoodL : Try.prog.stoodInHeld 71 = false := by kernel_rfl
theorem stoodD : Try.prog.stoodInHeld 47 = false := by kernel_rfl
theorem eqL (x0 x1 x2 y0 y1 y2 : Int) (w : World) : (Op.equalIn 10000 71 (.agg #[.int .i64 x0, .int .u64 x1, .int .i64 x2]) (.agg #[.int .i64 y0, .int .u64 y1, .int .i64 y2])).run Try.prog w = .ok ((x0 == y0) && ((x1 == y1) && ((x2 == y2) && true))) w := by
  rw [show (10000 : Nat) = 9999 + 1 from rfl, run_equalIn_struct w 9999 71 _ _ underL stoodL]
  simp only [Program.fieldsOf, Try.underlying71]
  exact eqF_cons _ _ _ _ _ .i64 .i64 _ _ (by decide) (part_int 3 _ _ _ Try.isAgg3 rfl _) (part_int 3 _ _ _ Try.isAgg3 rfl _) Try.underlying3 (eqF_cons _ _ _ _ _ .u64 .u64 _ _ (by decide) (part_int 33 _ _ _ Try.isAgg33 rfl _) (part_int 33 _ _ _ Try.isAgg33 rfl _) Try.underlying33 (eqF_cons _ _ _ _ _ .i64 .i64 _ _ (by decide) (part_int 3 _ _ _ Try.isAgg3 rfl _) (part_int 3 _ _ _ Try.isAgg3 rfl _) Try.underlying3 (eqF_nil _ _ _ _)))
theorem eqD (x0 x1 x2 x3 x4 x5 y0 y1 y2 y3 y4 y5 : Int) (w : World) : (Op.equalIn 10000 47 (.agg #[.int .u64 x0, .int .i64 x1, .int .i64 x2, .int .i64 x3, .int .u64 x4, .int .i64 x5]) (.agg #[.int .u64 y0, .int .i64 y1, .int .i64 y2, .int .i64 y3, .int .u64 y4, .int .i64 y5])).run Try.prog w = .ok ((x0 == y0) && ((x1 == y1) && ((x2 == y2) && ((x3 == y3) && ((x4 == y4) && ((x5 == y5) && true)))))) w := by
  rw [show (10000 : Nat) = 9999 + 1 from rfl, run_equalIn_struct w 9999 47 _ _ underD stoodD]
  simp only [Program.fieldsOf, Try.underlying47]
  exact eqF_cons _ _ _ _ _ .u64 .u64 _ _ (by decide) (part_int 33 _ _ _ Try.isAgg33 rfl _) (part_int 33 _ _ _ Try.isAgg33 rfl _) Try.underlying33 (eqF_cons _ _ _ _ _ .i64 .i64 _ _ (by decide) (part_int 3 _ _ _ Try.isAgg3 rfl _) (part_int 3 _ _ _ Try.isAgg3 rfl _) Try.underlying3 (eqF_cons _ _ _ _ _ .i64 .i64 _ _ (by decide) (part_int 3 _ _ _ Try.isAgg3 rfl _) (part_int 3 _ _ _ Try.isAgg3 rfl _) Try.underlying3 (eqF_cons _ _ _ _ _ .i64 .i64 _ _ (by decide) (part_int 3 _ _ _ Try.isAgg3 rfl _) (part_int 3 _ _ _ Try.isAgg3 rfl _) Try.underlying3 (eqF_cons _ _ _ _ _ .u64 .u64 _ _ (by decide) (part_int 33 _ _ _ Try.isAgg33 rfl _) (part_int 33 _ _ _ Try.isAgg33 rfl _) Try.underlying33 (eqF_cons _ _ _ _ _ .i64 .i64 _ _ (by decide) (part_int 3 _ _ _ Try.isAgg3 rfl _) (part_int 3 _ _ _ Try.isAgg3 rfl _) Try.underlying3 (eqF_nil _ _ _ _))))))
theorem eq_word (d : Nat) (a b : Int) (w : World) : (Op.equalIn (d + 1) 33 (.int .u64 a) (.int .u64 b)).run Try.prog w = .ok (a == b) w := run_equalIn_int w d 33 .u64 .u64 a b Try.underlying33
set_option maxRecDepth 100000 in
theorem eqL_at (x y : Lv) (w : World) : (Op.equalIn 10000 71 (.agg #[.int .i64 x.pr, .int .u64 x.qt, .int .i64 x.ct]) (.agg #[.int .i64 y.pr, .int .u64 y.qt, .int .i64 y.ct])).run Try.prog w = .ok (decide (x = y)) w := by
  rw [eqL]
  congr 1
  rw [Bool.eq_iff_iff]
  cases x; cases y
  simp [and_assoc]
theorem eqD_at (x y : Dm) (w : World) : (Op.equalIn 10000 47 (.agg #[.int .u64 x.sq, .int .i64 x.kd, .int .i64 x.sd, .int .i64 x.pr, .int .u64 x.qt, .int .i64 x.ct]) (.agg #[.int .u64 y.sq, .int .i64 y.kd, .int .i64 y.sd, .int .i64 y.pr, .int .u64 y.qt, .int .i64 y.ct])).run Try.prog w = .ok (decide (x = y)) w := by
  rw [eqD]
  congr 1
  rw [Bool.eq_iff_iff]
  cases x; cases y
  simp [and_assoc]
theorem eqD_same (x : Dm) (w : World) : (Op.equalIn 10000 47 (.agg #[.int .u64 x.sq, .int .i64 x.kd, .int .i64 x.sd, .int .i64 x.pr, .int .u64 x.qt, .int .i64 x.ct]) (.agg #[.int .u64 x.sq, .int .i64 x.kd, .int .i64 x.sd, .int .i64 x.pr, .int .u64 x.qt, .int .i64 x.ct])).run Try.prog w = .ok true w := by rw [eqD_at]; simp
end Go.Proofs.Ytojmcfkbekodpaa.Fd
namespace Go.Proofs.Ytojmcfkbekodpaa.Fd
open Go.RowKit Go.Deep
set_option linter.unusedVariables false
set_option linter.unusedSimpArgs false
set_option maxHeartbeats 2000000
set_option maxRecDepth 100000
theorem row8 {w : World} {g : Nat} {t : TypeId} {a0 a1 a2 a3 a4 a5 a6 a7 : Value} (h : w.heap[g]? = some (.cells #[a0, a1, a2, a3, a4, a5, a6, a7] t (0, 0))) : w.cell? ⟨g, 0, none⟩ = some a0 ∧ w.cell? ⟨g, 1, none⟩ = some a1 ∧ w.cell? ⟨g, 2, none⟩ = some a2 ∧ w.cell? ⟨g, 3, none⟩ = some a3 ∧ w.cell? ⟨g, 4, none⟩ = some a4 ∧ w.cell? ⟨g, 5, none⟩ = some a5 ∧ w.cell? ⟨g, 6, none⟩ = some a6 ∧ w.cell? ⟨g, 7, none⟩ = some a7 :=
  ⟨row_cell h 0, row_cell h 1, row_cell h 2, row_cell h 3, row_cell h 4, row_cell h 5, row_cell h 6, row_cell h 7⟩
theorem alloc4 {w W : World} {R : Nat} {c1 c2 c3 c4 : Array Value} {t1 t2 t3 t4 : TypeId} (hR : w.heap.size = R) (hW : (((w.alloc (.cells c1 t1)).alloc (.cells c2 t2)).alloc (.cells c3 t3)).alloc (.cells c4 t4) = W) : Below w.heap.size w W ∧ W.heap[R]? = some (.cells c1 t1 (0, 0)) ∧ W.heap[R + 1]? = some (.cells c2 t2 (0, 0)) ∧ W.heap[R + 1 + 1]? = some (.cells c3 t3 (0, 0)) ∧ W.heap[R + 1 + 1 + 1]? = some (.cells c4 t4 (0, 0)) := by
  rw [← hW, ← hR]
  refine ⟨btr (btr (btr (ball _ _) (ball _ _)) (ball _ _)) (ball _ _), row_on (row_on (row_on (World.alloc_heap_new _ _) (ball _ _)) (ball _ _)) (ball _ _), ?_, ?_, ?_⟩
  · have := row_on (row_on (World.alloc_heap_new (w.alloc (.cells c1 t1)) (.cells c2 t2)) (ball _ (.cells c3 t3))) (ball _ (.cells c4 t4))
    simpa using this
  · have := row_on (World.alloc_heap_new ((w.alloc (.cells c1 t1)).alloc (.cells c2 t2)) (.cells c3 t3)) (ball _ (.cells c4 t4))
    simpa using this
  · have := World.alloc_heap_new (((w.alloc (.cells c1 t1)).alloc (.cells c2 t2)).alloc (.cells c3 t3)) (.cells c4 t4)
    simpa using this
theorem alloc3 {w W : World} {R : Nat} {c1 c2 c3 : Array Value} {t1 t2 t3 : TypeId} (hR : w.heap.size = R) (hW : ((w.alloc (.cells c1 t1)).alloc (.cells c2 t2)).alloc (.cells c3 t3) = W) : Below w.heap.size w W ∧ W.heap[R]? = some (.cells c1 t1 (0, 0)) ∧ W.heap[R + 1]? = some (.cells c2 t2 (0, 0)) ∧ W.heap[R + 1 + 1]? = some (.cells c3 t3 (0, 0)) := by
  rw [← hW, ← hR]
  refine ⟨btr (btr (ball _ _) (ball _ _)) (ball _ _), row_on (row_on (World.alloc_heap_new _ _) (ball _ _)) (ball _ _), ?_, ?_⟩
  · have := row_on (World.alloc_heap_new (w.alloc (.cells c1 t1)) (.cells c2 t2)) (ball _ (.cells c3 t3))
    simpa using this
  · have := World.alloc_heap_new ((w.alloc (.cells c1 t1)).alloc (.cells c2 t2)) (.cells c3 t3)
    simpa using this
end Go.Proofs.Ytojmcfkbekodpaa.Fd
