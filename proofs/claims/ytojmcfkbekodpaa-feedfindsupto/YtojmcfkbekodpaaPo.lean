/-
  The document's changes.
-/
import Derived.Test.YtojmcfkbekodpaaPn
namespace Go.Proofs.Ytojmcfkbekodpaa.Fd
open Go.RowKit Go.Deep
set_option linter.unusedVariables false
set_option linter.unusedSimpArgs false
set_option maxHeartbeats 8000000
set_option maxRecDepth 100000
end Go.Proofs.Ytojmcfkbekodpaa.Fd
namespace Go.Proofs.Ytojmcfkbekodpaa.Fd
open Go.RowKit Go.Deep
set_option linter.unusedVariables false
set_option linter.unusedSimpArgs false
set_option maxHeartbeats 8000000
set_option maxRecDepth 100000
theorem res_ctt {P : Program} {fn : Func} {p q r : Tmp} {ty : TypeId} (h : fn.results = #[.cell p ty, .tmp q, .tmp r]) (tmps : Array Value) (w : World) (g : Nat) (t : TypeId) (cs : Array Value) (fr : Nat × Nat) (d : TypeDesc) (v u : Value)
    (hp : tmps.getD p undef = .pointer (some ⟨g, 0, none⟩)) (hq : tmps.getD q undef = v) (hr : tmps.getD r undef = u) (hg : w.heap[g]? = some (.cells cs t fr))
    (hu : P.underlying ty = some d) (hd : (match d with | .struct _ | .array _ _ => true | _ => false) = true) (hi : (P.info? ty).map (·.size) = some cs.size) :
    (results fn tmps).run P w = .ok (.tuple #[.agg cs, v, u]) w := by
  have hp' : tmps[p]?.getD undef = .pointer (some ⟨g, 0, none⟩) := by simpa using hp
  have hq' : tmps[q]?.getD undef = v := by simpa using hq
  have hr' : tmps[r]?.getD undef = u := by simpa using hr
  simp [results, h, hp', hq', hr', asAddr, run_loadVar_row w g t ty cs fr d hg hu hd hi]
/-- the document's publisher, a value. -/
structure Rp (w : World) (d : Nat) (sq : Int) (p1 : Option Addr) (c1 : Nat) (l1 : List Lv) (p2 : Option Addr) (c2 : Nat) (l2 : List Lv) : Prop where
  r1 : Rl w p1 c1 l1
  r2 : Rl w p2 c2 l2
  k1 : Lok 1 l1
  k2 : Lok 2 l2
  n1 : l1.length ≤ 64
  n2 : l2.length ≤ 64
  d1 : 1 ≤ d
  d2 : d ≤ 64
  sq : 0 ≤ sq ∧ sq < 18446744073709551616
/-- what stands at the head of the document's loop that numbers. -/
structure Nv (W : World) (sq : Int) (T : List Dm) (q : Option Addr) (dd : Nat) (q1 : Option Addr) (e1 : Nat) (f1 : List Lv) (q2 : Option Addr) (e2 : Nat) (f2 : List Lv) (i : Nat) (wr : World) : Prop where
  o : wr.ownsRow W.heap.size 47 6 (.slice q T.length dd) T.length (dvc (nmi sq T i))
  l1 : Lo W.heap.size wr q1 e1 f1
  l2 : Lo W.heap.size wr q2 e2 f2
  b : Below W.heap.size W wr
end Go.Proofs.Ytojmcfkbekodpaa.Fd
