/-
  What stands between two turns.
-/
import Derived.Test.YtiphgfghdbmlcaaFfC
import Derived.Shelf.RegionOpen
namespace Go.Proofs.Ytiphgfghdbmlcaa
open Go.RowKit Go.Deep
set_option linter.unusedVariables false
set_option linter.unusedSimpArgs false
set_option maxHeartbeats 4000000
set_option maxRecDepth 100000
/-- a cut behind a region: its ways meet there. -/
theorem reg_cut {P : Program} {id : Nat} {ops : Array Oper} {b : Bool} {Q : Exit → Act → World → Prop} {a : Act} {w : World} {X : Type} (F : Act → X → Act) (T : X → World → Prop)
    (h1 : (Code.region id ops b).wp P (fun e a' w' => match e with | .normal => ∃ x, a' = F a x ∧ T x w' | _ => False) a w)
    (h2 : ∀ x w', T x w' → Q .normal (F a x) w') : (Code.region id ops b).wp P Q a w :=
  wp_mono h1 (fun e a' w' h => by
    cases e with
    | normal => obtain ⟨x, rfl, ht⟩ := h; exact h2 x w' ht
    | _ => exact h.elim)
/-- a turn. -/
structure Tu where
  pb : Option Addr
  cb : Nat
  lb : List Lv
  ps : Option Addr
  cs : Nat
  ls : List Lv
  pe : Option Addr
  ce : Nat
  le : List Ev
/-- turns that came in. -/
structure Tk (w : World) (z : Tu) : Prop where
  hb : Rl w z.pb z.cb z.lb
  hs : Rl w z.ps z.cs z.ls
  he : Re w z.pe z.ce z.le
  bb : z.lb.length * 24 + 24 ≤ 140737488355328
  bs : z.ls.length * 24 + 24 ≤ 140737488355328
  be : z.le.length * 104 ≤ 140737488355328
theorem Tk.on {w w' : World} {z : Tu} (h : Tk w z) (hb : Below w.heap.size w w') : Tk w' z := ⟨h.hb.on hb, h.hs.on hb, h.he.on hb, h.bb, h.bs, h.be⟩
def Tz (w : World) (q : Option Addr) (l : List Tu) : Prop := ∀ i (h : i < l.length), ∃ g o, q = some ⟨g, o, none⟩ ∧ g < w.heap.size ∧ w.cell? ⟨g, o + i * 3, none⟩ = some (.slice l[i].pb l[i].lb.length l[i].cb) ∧ w.cell? ⟨g, o + i * 3 + 1, none⟩ = some (.slice l[i].ps l[i].ls.length l[i].cs) ∧ w.cell? ⟨g, o + i * 3 + 2, none⟩ = some (.slice l[i].pe l[i].le.length l[i].ce) ∧ Tk w l[i]
structure Ls (w0 : World) (B D d : Nat) (sq : Int) (p1 : Option Addr) (c1 : Nat) (l1 : List Lv) (p2 : Option Addr) (c2 : Nat) (l2 : List Lv) (r1 : Option Addr) (e1 : Nat) (r2 : Option Addr) (e2 : Nat) (w : World) : Prop where
  pb : Pb w B d sq p1 c1 l1 p2 c2 l2
  o1 : Lo 0 w p1 c1 l1
  o2 : Lo 0 w p2 c2 l2
  dr : w.heap[D]? = some (.cells #[.int .i64 d, .int .u64 sq, .slice r1 l1.length e1, .slice r2 l2.length e2] 32 (0, 0))
  x1 : Lo 0 w r1 e1 l1
  x2 : Lo 0 w r2 e2 l2
  b : Below w0.heap.size w0 w
  lB : w0.heap.size ≤ B
  lD : w0.heap.size ≤ D
theorem Ls.keep {w0 : World} {B D d : Nat} {sq : Int} {p1 : Option Addr} {c1 : Nat} {l1 : List Lv} {p2 : Option Addr} {c2 : Nat} {l2 : List Lv} {r1 : Option Addr} {e1 : Nat} {r2 : Option Addr} {e2 : Nat} {w w' : World} {F : Nat → Prop} (h : Ls w0 B D d sq p1 c1 l1 p2 c2 l2 r1 e1 r2 e2 w) (k : Kp F w w') (hB : ¬ F B) (hD : ¬ F D) (f1 : ∀ g, OfP p1 g → ¬ F g) (f2 : ∀ g, OfP p2 g → ¬ F g) (f3 : ∀ g, OfP r1 g → ¬ F g) (f4 : ∀ g, OfP r2 g → ¬ F g) (f0 : ∀ g, F g → w0.heap.size ≤ g) : Ls w0 B D d sq p1 c1 l1 p2 c2 l2 r1 e1 r2 e2 w' := by
  have a1 := h.o1.kept k f1
  have a2 := h.o2.kept k f2
  exact ⟨⟨k.row h.pb.row hB, a1.rl, a2.rl, h.pb.k1, h.pb.k2, h.pb.n1, h.pb.n2, h.pb.d1, h.pb.d2, h.pb.sq⟩, a1, a2, k.row h.dr hD, h.x1.kept k f3, h.x2.kept k f4, h.b.trans (k.below h.b.size (fun g hg hF => by have := f0 g hF; omega)), h.lB, h.lD⟩
theorem Ls.on {w0 : World} {B D d : Nat} {sq : Int} {p1 : Option Addr} {c1 : Nat} {l1 : List Lv} {p2 : Option Addr} {c2 : Nat} {l2 : List Lv} {r1 : Option Addr} {e1 : Nat} {r2 : Option Addr} {e2 : Nat} {w w' : World} (h : Ls w0 B D d sq p1 c1 l1 p2 c2 l2 r1 e1 r2 e2 w) (hb : Below w.heap.size w w') : Ls w0 B D d sq p1 c1 l1 p2 c2 l2 r1 e1 r2 e2 w' :=
  h.keep (Kp.of (fun _ => False) hb) _root_.id _root_.id (fun _ _ h => h) (fun _ _ h => h) (fun _ _ h => h) (fun _ _ h => h) (fun _ h => h.elim)
/-- what stands while messages are written over. -/
structure Wd (w0 : World) (B D d : Nat) (sq : Int) (p1 : Option Addr) (c1 : Nat) (l1 : List Lv) (p2 : Option Addr) (c2 : Nat) (l2 : List Lv) (r1 : Option Addr) (e1 : Nat) (r2 : Option Addr) (e2 : Nat) (b : Nat) (q : Option Addr) (n c : Nat) (w : World) : Prop where
  s : Ls w0 B D d sq p1 c1 l1 p2 c2 l2 r1 e1 r2 e2 w
  o : ∃ xs, w.ownsRow b 48 6 (.slice q n c) n xs
  l : w0.heap.size ≤ b
theorem Wd.set {w0 : World} {B D d : Nat} {sq : Int} {p1 : Option Addr} {c1 : Nat} {l1 : List Lv} {p2 : Option Addr} {c2 : Nat} {l2 : List Lv} {r1 : Option Addr} {e1 : Nat} {r2 : Option Addr} {e2 : Nat} {b : Nat} {q : Option Addr} {n c : Nat} {w : World} (h : Wd w0 B D d sq p1 c1 l1 p2 c2 l2 r1 e1 r2 e2 b q n c w) {g k : Nat} (hg : OfP q g) (hk : k < n * 6) (v : Value) : Wd w0 B D d sq p1 c1 l1 p2 c2 l2 r1 e1 r2 e2 b q n c (w.setCell ⟨g, k, none⟩ v) := by
  obtain ⟨xs, hx⟩ := h.o
  subst hg
  obtain ⟨cur, ec⟩ := own_ty hx rfl
  refine ⟨h.s.keep (Kp.set _ _ _ _) (row_ne h.s.pb.row ec (by decide)) (row_ne h.s.dr ec (by decide)) (fun j hj => ?_) (fun j hj => ?_) (fun j hj => ?_) (fun j hj => ?_) (fun j hj => ?_), ⟨_, own_setc hx hk⟩, h.l⟩
  · obtain ⟨cu, hc⟩ := h.s.o1.ty hj; exact row_ne hc ec (by decide)
  · obtain ⟨cu, hc⟩ := h.s.o2.ty hj; exact row_ne hc ec (by decide)
  · obtain ⟨cu, hc⟩ := h.s.x1.ty hj; exact row_ne hc ec (by decide)
  · obtain ⟨cu, hc⟩ := h.s.x2.ty hj; exact row_ne hc ec (by decide)
  · have e : j = g := hj
    rw [e]
    exact Nat.le_trans h.l (own_geP hx (OfP.mk g))
theorem drew_add (w : World) (m n : Nat) : (w.drewN m).drewN n = w.drewN (m + n) := by simp
theorem infoE13 : (Try.prog.info? 85).map (fun i => (i.zero, i.size, i.bytes)) = some (some (.agg #[.int .u64 0, .int .i64 0, .int .u64 0, .int .u64 0, .int .u64 0, .int .u32 0, .int .i64 0, .int .i64 0, .int .i64 0, .int .u64 0, .int .u64 0, .int .i64 0, .int .i64 0]), 13, 104) := by kernel_rfl
theorem evc_one (l : List Ev) : ∀ u ∈ evc l, u.oneCell' = true := by
  intro u hu
  simp only [evc, List.mem_flatMap] at hu
  obtain ⟨x, _, hx⟩ := hu
  simp only [List.mem_cons, List.not_mem_nil, or_false] at hx
  rcases hx with rfl | rfl | rfl | rfl | rfl | rfl | rfl | rfl | rfl | rfl | rfl | rfl | rfl <;> rfl
theorem own_re {b : Nat} {w : World} {p : Option Addr} {c n : Nat} {l : List Ev} (h : w.ownsRow b 85 13 (.slice p n c) n (evc l)) (hn : l.length = n) : Re w p c l := by
  obtain ⟨h1, h2, h3⟩ := own_cap h
  refine ⟨fun e => ⟨List.length_eq_zero_iff.1 (by rw [hn]; exact (h3 e).1), (h3 e).2⟩, by rw [hn]; exact h1, h2, fun ad e => ?_⟩
  subst e
  exact (own_cells h).2
theorem step_store_row {P : Program} {w : World} {ops : Array Oper} {o : Oper} {a : Act} {K : Act → World → Prop} {Q : Exit → Act → World → Prop} {E : Prop} (hgd : o.guard = none) (ty : TypeId) (x y : Operand) (ho : o.op = .store ty x y)
    (g : Nat) (cells : Array Value) (hx : a.eval x = .pointer (some ⟨g, 0, none⟩)) (hy : a.eval y = .agg cells)
    (t : TypeId) (old : Array Value) (hg : w.heap[g]? = some (.cells old t (0, 0))) (hi : (P.info? ty).map (·.size) = some cells.size)
    (hold : old.size = cells.size) (h1 : cells.all (·.oneCell') = true)
    (h : K (a.put o.dst undef) (w.setRow g cells)) : if Region.wanted o (yielded ops a.tmps) = true then Oper.wp P o a w K Q else E := by
  have hw : Region.wanted o (yielded ops a.tmps) = true := by simp [Region.wanted, hgd]
  rw [if_pos hw]
  exact wp_store_row ty x y ho g cells hx hy t old hg hi hold h1 h
end Go.Proofs.Ytiphgfghdbmlcaa
