/-
  Orders in memory; two lists of them compared.
-/
import Derived.Test.YtjpkodllemoniaaDoorRcA
import Derived.WalkKit
import Derived.WalkLawsBesides
import Derived.RowKit3
import Derived.Deep.OwnRows
import Derived.BigQuiet
import Derived.Deep.QuietTactic
import Derived.Laws.Rows
import Derived.Laws.OwnMore
import Derived.Laws.AppendOwnNone
import Derived.Deep.RegionHeld3
import Derived.Deep.RegionWith
import Derived.Shelf.Strconv.Itoa0
namespace Go.Proofs.YtjpkodllemoniaaDoor.Cp
open Go.RowKit Go.Deep
set_option linter.unusedVariables false
set_option maxRecDepth 100000
set_option linter.unusedSimpArgs false
theorem hid {p : Prop} (h : p) : Hid p := h
theorem ball (w : World) (o : Obj) : Below w.heap.size w (w.alloc o) := (Below.refl _ _).alloc (Nat.le_refl _) _
theorem btr {a b c : World} (h : Below a.heap.size a b) (k : Below b.heap.size b c) : Below a.heap.size a c := h.trans (k.mono h.size)
theorem row_cell {w : World} {g : Nat} {t : TypeId} {cs : Array Value} (h : w.heap[g]? = some (.cells cs t (0, 0))) (j : Nat) : w.cell? ⟨g, j, none⟩ = cs[j]? := cell_of_row w g j cs t (0, 0) h
theorem row_frz {w : World} {g : Nat} {t : TypeId} {cs : Array Value} (h : w.heap[g]? = some (.cells cs t (0, 0))) (j : Nat) : w.frozen? ⟨g, j, none⟩ = false := frozen_of_row w g j cs t h
theorem row_lt {w : World} {g : Nat} {o : Obj} (h : w.heap[g]? = some o) : g < w.heap.size := (Array.getElem?_eq_some_iff.1 h).1
theorem row_on {w w' : World} {g : Nat} {o : Obj} (h : w.heap[g]? = some o) (hb : Below w.heap.size w w') : w'.heap[g]? = some o := by
  rw [hb.block g (row_lt h)]; exact h
theorem row_ne {w : World} {g k : Nat} {t u : TypeId} {c d : Array Value} (h : w.heap[g]? = some (.cells c t (0, 0))) (k' : w.heap[k]? = some (.cells d u (0, 0))) (ne : t ≠ u) : g ≠ k := by
  rintro rfl
  rw [h] at k'
  injection k' with k'
  injection k' with _ k'
  exact ne k'
theorem bdrew (w : World) (n : Nat) : Below w.heap.size w (w.drewN n) := ⟨rfl, rfl, rfl, Nat.le_refl _, fun _ _ => rfl⟩
theorem bdrew1 (w : World) : Below w.heap.size w w.drew := ⟨rfl, rfl, rfl, Nat.le_refl _, fun _ _ => rfl⟩
/-- all blocks but some are as they were. -/
structure Kp (B : Nat → Prop) (w w' : World) : Prop where
  os : w'.os = w.os
  tape : w'.tape = w.tape
  output : w'.output = w.output
  size : w.heap.size ≤ w'.heap.size
  obj : ∀ b, b < w.heap.size → ¬ B b → w'.heap[b]? = w.heap[b]?
theorem Kp.refl (B : Nat → Prop) (w : World) : Kp B w w := ⟨rfl, rfl, rfl, Nat.le_refl _, fun _ _ _ => rfl⟩
theorem Kp.trans {B C : Nat → Prop} {a b c : World} (h : Kp B a b) (k : Kp C b c) (hC : ∀ g, g < a.heap.size → C g → B g) : Kp B a c :=
  ⟨k.os.trans h.os, k.tape.trans h.tape, k.output.trans h.output, Nat.le_trans h.size k.size, fun g hg hB => (k.obj g (Nat.lt_of_lt_of_le hg h.size) (fun hc => hB (hC g hg hc))).trans (h.obj g hg hB)⟩
theorem Kp.mono {B C : Nat → Prop} {a b : World} (h : Kp B a b) (hm : ∀ g, g < a.heap.size → B g → C g) : Kp C a b :=
  ⟨h.os, h.tape, h.output, h.size, fun g hg hC => h.obj g hg (fun hB => hC (hm g hg hB))⟩
theorem Kp.row {B : Nat → Prop} {w w' : World} (h : Kp B w w') {g : Nat} {o : Obj} (e : w.heap[g]? = some o) (hB : ¬ B g) : w'.heap[g]? = some o := (h.obj g (row_lt e) hB).trans e
theorem Kp.below {B : Nat → Prop} {w w' : World} (h : Kp B w w') {n : Nat} (hn : n ≤ w.heap.size) (hB : ∀ g, g < n → ¬ B g) : Below n w w' :=
  ⟨h.os, h.tape, h.output, h.size, fun g hg => h.obj g (Nat.lt_of_lt_of_le hg hn) (hB g hg)⟩
theorem Kp.of {w w' : World} (B : Nat → Prop) (h : Below w.heap.size w w') : Kp B w w' := ⟨h.os, h.tape, h.output, h.size, fun g hg _ => h.block g hg⟩
theorem Kp.set (w : World) (N i : Nat) (v : Value) : Kp (fun b => b = N) w (w.setCell ⟨N, i, none⟩ v) :=
  ⟨rfl, rfl, rfl, by simp [World.setCell], fun b _ hN => heap_setCell_other _ _ _ _ (by show b ≠ N; exact hN)⟩

theorem own_same {base : Nat} {w w' : World} {e : TypeId} {size n : Nat} {v : Value} {xs : List Value} (h : w.ownsRow base e size v n xs) (hs : ∀ g, v.ownBlock = some g → w'.heap[g]? = w.heap[g]?) : w'.ownsRow base e size v n xs := by
  obtain ⟨h1, h2 | ⟨g, c, cur, rfl, r1, r2, r⟩⟩ := h
  · exact ⟨h1, .inl h2⟩
  · exact ⟨h1, .inr ⟨g, c, cur, rfl, r1, (hs g rfl).trans r2, r⟩⟩
theorem own_ty {base : Nat} {w : World} {e : TypeId} {size n : Nat} {v : Value} {xs : List Value} (h : w.ownsRow base e size v n xs) {g : Nat} (hg : v.ownBlock = some g) : ∃ cur, w.heap[g]? = some (.cells cur e (0, 0)) := by
  obtain ⟨h1, ⟨rfl, _⟩ | ⟨g', c, cur, rfl, r1, r2, r⟩⟩ := h
  · cases hg
  · cases hg; exact ⟨cur, r2⟩
theorem own_on {base : Nat} {w w' : World} {e : TypeId} {size n : Nat} {v : Value} {xs : List Value} (h : w.ownsRow base e size v n xs) (hb : Below w.heap.size w w') : w'.ownsRow base e size v n xs :=
  own_same h (fun g hg => by obtain ⟨c, e⟩ := own_ty h hg; exact hb.block g (row_lt e))
theorem own_base {base base' : Nat} {w : World} {e : TypeId} {size n : Nat} {v : Value} {xs : List Value} (h : w.ownsRow base e size v n xs) (hb : base' ≤ base) : w.ownsRow base' e size v n xs := by
  obtain ⟨h1, h2 | ⟨g, c, cur, h2, r1, r⟩⟩ := h
  · exact ⟨h1, .inl h2⟩
  · exact ⟨h1, .inr ⟨g, c, cur, h2, Nat.le_trans hb r1, r⟩⟩

deriving instance DecidableEq for Sr.Rt
abbrev Or := Sr.Rt
def orow (o : Or) : Array Value := #[.int .u64 o.id, .int .u32 o.mb, .int .i64 o.ty, .int .i64 o.pr, .int .u64 o.vi, .int .u64 o.hi, .int .u64 o.pk]
/-- orders in memory, wherever. -/
def Osz (w : World) (q : Option Addr) (os : List Or) : Prop := ∀ i (h : i < os.length), ∃ b off, q = some ⟨b, off, none⟩ ∧ b < w.heap.size ∧ ∀ j, j < 7 → w.cell? ⟨b, off + i * 7 + j, none⟩ = (orow os[i]).toList[j]?
theorem Osz.on {W U : World} {q : Option Addr} {os : List Or} (h : Osz W q os) (hU : Below W.heap.size W U) : Osz U q os := fun i hi => by
  obtain ⟨b, off, hq, hb, hc⟩ := h i hi
  exact ⟨b, off, hq, Nat.lt_of_lt_of_le hb hU.size, fun j hj => (hU.cell (p := ⟨b, off + i * 7 + j, none⟩) hb).trans (hc j hj)⟩
theorem osz_cells {W U : World} {q : Option Addr} {os : List Or} (h : Osz W q os) (hU : Below W.heap.size W U) {i : Nat} (hi : i < os.length) : ∃ b off, q = some ⟨b, off, none⟩ ∧ U.cell? ⟨b, off + i * 7, none⟩ = some (.int .u64 os[i].id) ∧ U.cell? ⟨b, off + i * 7 + 1, none⟩ = some (.int .u32 os[i].mb) ∧ U.cell? ⟨b, off + i * 7 + 2, none⟩ = some (.int .i64 os[i].ty) ∧ U.cell? ⟨b, off + i * 7 + 3, none⟩ = some (.int .i64 os[i].pr) ∧ U.cell? ⟨b, off + i * 7 + 4, none⟩ = some (.int .u64 os[i].vi) ∧ U.cell? ⟨b, off + i * 7 + 5, none⟩ = some (.int .u64 os[i].hi) ∧ U.cell? ⟨b, off + i * 7 + 6, none⟩ = some (.int .u64 os[i].pk) := by
  obtain ⟨b, off, hq, hb, hc⟩ := h i hi
  have go : ∀ j, j < 7 → U.cell? ⟨b, off + i * 7 + j, none⟩ = (orow os[i]).toList[j]? := fun j hj => (hU.cell (p := ⟨b, off + i * 7 + j, none⟩) hb).trans (hc j hj)
  exact ⟨b, off, hq, go 0 (by omega), go 1 (by omega), go 2 (by omega), go 3 (by omega), go 4 (by omega), go 5 (by omega), go 6 (by omega)⟩
theorem eqF_nil (d : Nat) (xs ys : Array Value) (w : World) : (Op.eqFields d xs ys []).run Tryd.prog w = .ok true w := by simp [Op.eqFields]
theorem eqF_any (d : Nat) (xs ys : Array Value) (f : Field) (fs : List Field) (u v : Value) (c : Bool) {r : Bool} {w : World} (hn : f.name ≠ "_") (hx : (part f.type xs f.offset).run Tryd.prog w = .ok u w) (hy : (part f.type ys f.offset).run Tryd.prog w = .ok v w)
    (hq : (Op.equalIn d f.type u v).run Tryd.prog w = .ok c w) (hr : (Op.eqFields d xs ys fs).run Tryd.prog w = .ok r w) : (Op.eqFields d xs ys (f :: fs)).run Tryd.prog w = .ok (c && r) w := by
  simp only [Op.eqFields, if_pos hn, Sem.run_bind, hx, hy, hq, Result.andThen_ok, Sem.run_ite]
  cases c
  · simp
  · simp [hr]
theorem eqF_cons (d : Nat) (xs ys : Array Value) (f : Field) (fs : List Field) (k k' : IntKind) (a b : Int) {r : Bool} {w : World} (hn : f.name ≠ "_") (hx : (part f.type xs f.offset).run Tryd.prog w = .ok (.int k a) w) (hy : (part f.type ys f.offset).run Tryd.prog w = .ok (.int k b) w)
    (hu : Tryd.prog.underlying f.type = some (.int k')) (hr : (Op.eqFields (d + 1) xs ys fs).run Tryd.prog w = .ok r w) : (Op.eqFields (d + 1) xs ys (f :: fs)).run Tryd.prog w = .ok ((a == b) && r) w :=
  eqF_any (d + 1) xs ys f fs _ _ (a == b) hn hx hy (run_equalIn_int w d f.type k k' a b hu) hr
theorem part_int (t : TypeId) (xs : Array Value) (o : Nat) (v : Value) (ha : ∀ w, (isAgg t).run Tryd.prog w = .ok false w) (h : xs[o]? = some v) (w : World) : (part t xs o).run Tryd.prog w = .ok v w := by
  simp [part, Sem.run_bind, ha, h]
theorem underX33 : Tryd.prog.underlying 46 = some (.struct (Tryd.prog.fieldsOf 46)) := by kernel_rfl
theorem stoodX33 : Tryd.prog.stoodInHeld 46 = false := by kernel_rfl
theorem underX23 : Tryd.prog.underlying 23 = some (.struct (Tryd.prog.fieldsOf 23)) := by kernel_rfl
theorem stoodX23 : Tryd.prog.stoodInHeld 23 = false := by kernel_rfl
set_option maxRecDepth 100000 in
theorem eqR (x y : Or) (w : World) : (Op.equalIn 10000 46 (.agg (orow x)) (.agg (orow y))).run Tryd.prog w = .ok ((x.id == y.id) && ((x.mb == y.mb) && ((x.ty == y.ty) && ((x.pr == y.pr) && ((x.vi == y.vi) && ((x.hi == y.hi) && ((x.pk == y.pk) && true))))))) w := by
  rw [show (10000 : Nat) = 9999 + 1 from rfl, run_equalIn_struct w 9999 46 _ _ underX33 stoodX33]
  simp only [Program.fieldsOf, Tryd.underlying46]
  exact eqF_cons _ _ _ _ _ .u64 .u64 _ _ (by decide) (part_int 25 _ _ _ Tryd.isAgg25 rfl _) (part_int 25 _ _ _ Tryd.isAgg25 rfl _) Tryd.underlying25 (eqF_cons _ _ _ _ _ .u32 .u32 _ _ (by decide) (part_int 44 _ _ _ Tryd.isAgg44 rfl _) (part_int 44 _ _ _ Tryd.isAgg44 rfl _) Tryd.underlying44 (eqF_cons _ _ _ _ _ .i64 .i64 _ _ (by decide) (part_int 3 _ _ _ Tryd.isAgg3 rfl _) (part_int 3 _ _ _ Tryd.isAgg3 rfl _) Tryd.underlying3 (eqF_cons _ _ _ _ _ .i64 .i64 _ _ (by decide) (part_int 3 _ _ _ Tryd.isAgg3 rfl _) (part_int 3 _ _ _ Tryd.isAgg3 rfl _) Tryd.underlying3 (eqF_cons _ _ _ _ _ .u64 .u64 _ _ (by decide) (part_int 25 _ _ _ Tryd.isAgg25 rfl _) (part_int 25 _ _ _ Tryd.isAgg25 rfl _) Tryd.underlying25 (eqF_cons _ _ _ _ _ .u64 .u64 _ _ (by decide) (part_int 25 _ _ _ Tryd.isAgg25 rfl _) (part_int 25 _ _ _ Tryd.isAgg25 rfl _) Tryd.underlying25 (eqF_cons _ _ _ _ _ .u64 .u64 _ _ (by decide) (part_int 25 _ _ _ Tryd.isAgg25 rfl _) (part_int 25 _ _ _ Tryd.isAgg25 rfl _) Tryd.underlying25 (eqF_nil _ _ _ _)))))))
theorem eqO (x y : Or) (w : World) : (Op.equalIn 10000 46 (.agg #[.int .u64 x.id, .int .u32 x.mb, .int .i64 x.ty, .int .i64 x.pr, .int .u64 x.vi, .int .u64 x.hi, .int .u64 x.pk]) (.agg #[.int .u64 y.id, .int .u32 y.mb, .int .i64 y.ty, .int .i64 y.pr, .int .u64 y.vi, .int .u64 y.hi, .int .u64 y.pk])).run Tryd.prog w = .ok (decide (x = y)) w := by
  have h := eqR x y w
  unfold orow at h
  rw [h]
  congr 1
  obtain ⟨a0, a1, a2, a3, a4, a5, a6⟩ := x
  obtain ⟨b0, b1, b2, b3, b4, b5, b6⟩ := y
  simp only [Sr.Rt.mk.injEq, Bool.and_true]
  rw [Bool.eq_iff_iff]
  simp
set_option maxRecDepth 100000 in
theorem eqK (a b c d : Int) (w : World) : (Op.equalIn 10000 23 (.agg #[.int .i64 a, .int .i64 b]) (.agg #[.int .i64 c, .int .i64 d])).run Tryd.prog w = .ok (decide (a = c ∧ b = d)) w := by
  rw [show (10000 : Nat) = 9999 + 1 from rfl, run_equalIn_struct w 9999 23 _ _ underX23 stoodX23]
  simp only [Program.fieldsOf, Tryd.underlying23]
  have h : (Op.eqFields 9999 #[.int .i64 a, .int .i64 b] #[.int .i64 c, .int .i64 d] (#[{ name := "Capacity", type := 3, offset := 0, embedded := false, tag := "", pkgPath := "", byteOffset := 0 }, { name := "Meet", type := 3, offset := 1, embedded := false, tag := "", pkgPath := "", byteOffset := 8 }]).toList).run Tryd.prog w = .ok ((a == c) && ((b == d) && true)) w := eqF_cons _ _ _ _ _ .i64 .i64 _ _ (by decide) (part_int 3 _ _ _ Tryd.isAgg3 rfl _) (part_int 3 _ _ _ Tryd.isAgg3 rfl _) Tryd.underlying3 (eqF_cons _ _ _ _ _ .i64 .i64 _ _ (by decide) (part_int 3 _ _ _ Tryd.isAgg3 rfl _) (part_int 3 _ _ _ Tryd.isAgg3 rfl _) Tryd.underlying3 (eqF_nil _ _ _ _))
  refine Eq.trans h ?_
  congr 1
  rw [Bool.eq_iff_iff]
  simp
end Go.Proofs.YtjpkodllemoniaaDoor.Cp
