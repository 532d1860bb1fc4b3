/-
  Rows stored whole and handed back.
-/
import Derived.Test.YtkmlhchkidddmaaBrA
namespace Go.Proofs.Ytkmlhchkidddmaa.Ss
open Go.RowKit Go.Deep BigM
set_option linter.unusedVariables false
set_option linter.unusedSimpArgs false
set_option maxHeartbeats 8000000
set_option maxRecDepth 100000
theorem ball (w : World) (o : Obj) : Below w.heap.size w (w.alloc o) := (Below.refl _ _).alloc (Nat.le_refl _) _
theorem btr {a b c : World} (h : Below a.heap.size a b) (k : Below b.heap.size b c) : Below a.heap.size a c := h.trans (k.mono h.size)
theorem row_on {w w' : World} {g : Nat} {o : Obj} (h : w.heap[g]? = some o) (hb : Below w.heap.size w w') : w'.heap[g]? = some o := by
  rw [hb.block g (row_lt h)]; exact h
theorem setRow_kp (w : World) (g : Nat) (cs : Array Value) : Kp (fun b => b = g) w (w.setRow g cs) :=
  ⟨rfl, rfl, rfl, by simp [World.setRow], fun b _ hb => setRow_other w g b cs (fun e => hb e)⟩
theorem setRow_below {w W : World} {g : Nat} {cs : Array Value} (h : Below w.heap.size w W) (hg : w.heap.size ≤ g) : Below w.heap.size w (W.setRow g cs) := h.trans ((setRow_kp W g cs).below h.size (fun b hb e => by omega))
theorem set_below {w W : World} {g i : Nat} {v : Value} (h : Below w.heap.size w W) (hg : w.heap.size ≤ g) : Below w.heap.size w (W.setCell ⟨g, i, none⟩ v) := h.trans ((Kp.set W g i v).below h.size (fun b hb e => by omega))
theorem res_ct {P : Program} {fn : Func} {p q : Tmp} {ty : TypeId} (h : fn.results = #[.cell p ty, .tmp q]) (tmps : Array Value) (w : World) (g : Nat) (t : TypeId) (cs : Array Value) (fr : Nat × Nat) (d : TypeDesc) (v : Value)
    (hp : tmps.getD p undef = .pointer (some ⟨g, 0, none⟩)) (hq : tmps.getD q undef = v) (hg : w.heap[g]? = some (.cells cs t fr))
    (hu : P.underlying ty = some d) (hd : (match d with | .struct _ | .array _ _ => true | _ => false) = true) (hi : (P.info? ty).map (·.size) = some cs.size) :
    (results fn tmps).run P w = .ok (.tuple #[.agg cs, v]) w := by
  have hp' : tmps[p]?.getD undef = .pointer (some ⟨g, 0, none⟩) := by simpa using hp
  have hq' : tmps[q]?.getD undef = v := by simpa using hq
  simp [results, h, hp', hq', asAddr, run_loadVar_row w g t ty cs fr d hg hu hd hi]
theorem info26 : (Try.prog.info? 26).map (·.size) = some 4 := by kernel_rfl
theorem cv_info (o h lf : Int) (v : Value) : (Try.prog.info? 26).map (·.size) = some (#[.int .u64 o, .int .u64 h, v, .int .u64 lf] : Array Value).size := info26
theorem cv_size (o h lf o' h' lf' : Int) (v v' : Value) : (#[.int .u64 o, .int .u64 h, v, .int .u64 lf] : Array Value).size = (#[.int .u64 o', .int .u64 h', v', .int .u64 lf'] : Array Value).size := rfl
theorem cv_all (o h lf : Int) (p : Option Addr) (n c : Nat) : (#[.int .u64 o, .int .u64 h, .slice p n c, .int .u64 lf] : Array Value).all (·.oneCell') = true := by simp [Value.oneCell']
theorem reg_cut {P : Program} {id : Nat} {ops : Array Oper} {b : Bool} {Q : Exit → Act → World → Prop} {a : Act} {w : World} {X : Type} (F : Act → X → Act) (T : X → World → Prop)
    (h1 : (Code.region id ops b).wp P (fun e a' w' => match e with | .normal => ∃ x, a' = F a x ∧ T x w' | _ => False) a w)
    (h2 : ∀ x w', T x w' → Q .normal (F a x) w') : (Code.region id ops b).wp P Q a w :=
  wp_mono h1 (fun e a' w' h => by
    cases e with
    | normal => obtain ⟨x, rfl, ht⟩ := h; exact h2 x w' ht
    | _ => exact h.elim)
/-- a cover in memory. -/
def cvr (o h : Int) (v : Value) (lf : Int) : Array Value := #[.int .u64 o, .int .u64 h, v, .int .u64 lf]
theorem cvr_set2 (o h lf : Int) (v u : Value) : (cvr o h v lf).setIfInBounds 2 u = cvr o h u lf := by simp [cvr]
theorem cvr_set3 (o h lf x : Int) (v : Value) : (cvr o h v lf).setIfInBounds 3 (.int .u64 x) = cvr o h v x := by simp [cvr]
theorem cvr_set1 (o h lf x : Int) (v : Value) : (cvr o h v lf).setIfInBounds 1 (.int .u64 x) = cvr o x v lf := by simp [cvr]
theorem row_set {w : World} {g i : Nat} {t : TypeId} {cs ds : Array Value} {v : Value} (h : w.heap[g]? = some (.cells cs t (0, 0))) (e : cs.setIfInBounds i v = ds) : (w.setCell ⟨g, i, none⟩ v).heap[g]? = some (.cells ds t (0, 0)) := by
  rw [← e]
  exact heap_setCell_same w g i cs t v h
end Go.Proofs.Ytkmlhchkidddmaa.Ss
