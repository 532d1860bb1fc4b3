/-
  What stands under the walk.
-/
import Derived.Test.YtnmkfdndfhefiaaGreatChecked
import Derived.WalkKit
import Derived.WalkLawsBesides
import Derived.RowKit3
import Derived.Deep.OwnRows
import Derived.BigQuiet
import Derived.Deep.QuietTactic
import Derived.Laws.Rows
import Derived.Laws.OwnMore
import Derived.Deep.RegionHeld3
import Derived.Deep.RegionWith
import Derived.Deep.AppendLies
import Derived.Shelf.Strconv.Itoa0
import Derived.RangeFuncRecord
import Derived.Deep.DrawnRows
import Derived.Deep.Cut
import Derived.Deep.CutBlock
import Derived.Deep.RegionLaw
import Derived.Laws.NewBlocks
import Derived.Laws.MakeOwn
import Derived.Laws.AppendOwnNone
import Derived.Lib.SliceRun
namespace Go.Proofs.YtnmkfdndfhefiaaGreat
open Go.RowKit Go.Deep
set_option linter.unusedVariables false
set_option linter.unusedSimpArgs false
theorem hid {p : Prop} (h : p) : Hid p := h
theorem ball (w : World) (o : Obj) : Below w.heap.size w (w.alloc o) := (Below.refl _ _).alloc (Nat.le_refl _) _
theorem btr {a b c : World} (h : Below a.heap.size a b) (k : Below b.heap.size b c) : Below a.heap.size a c := h.trans (k.mono h.size)
theorem row_cell {w : World} {g : Nat} {t : TypeId} {cs : Array Value} (h : w.heap[g]? = some (.cells cs t (0, 0))) (j : Nat) : w.cell? ⟨g, j, none⟩ = cs[j]? := cell_of_row w g j cs t (0, 0) h
theorem row_frz {w : World} {g : Nat} {t : TypeId} {cs : Array Value} (h : w.heap[g]? = some (.cells cs t (0, 0))) (j : Nat) : w.frozen? ⟨g, j, none⟩ = false := frozen_of_row w g j cs t h
theorem row_lt {w : World} {g : Nat} {o : Obj} (h : w.heap[g]? = some o) : g < w.heap.size := (Array.getElem?_eq_some_iff.1 h).1
theorem row_on {w w' : World} {g : Nat} {o : Obj} (h : w.heap[g]? = some o) (hb : Below w.heap.size w w') : w'.heap[g]? = some o := by
  rw [hb.block g (row_lt h)]; exact h
theorem row_ne {w : World} {g k : Nat} {t u : TypeId} {c d : Array Value} (h : w.heap[g]? = some (.cells c t (0, 0))) (k' : w.heap[k]? = some (.cells d u (0, 0))) (ne : t ≠ u) : g ≠ k := by
  rintro rfl
  rw [h] at k'
  injection k' with k'
  injection k' with _ k'
  exact ne k'
theorem bdrew (w : World) (n : Nat) : Below w.heap.size w (w.drewN n) := ⟨rfl, rfl, rfl, Nat.le_refl _, fun _ _ => rfl⟩
theorem bdrew1 (w : World) : Below w.heap.size w w.drew := ⟨rfl, rfl, rfl, Nat.le_refl _, fun _ _ => rfl⟩
/-- all blocks but some are as they were. -/
structure Kp (B : Nat → Prop) (w w' : World) : Prop where
  os : w'.os = w.os
  tape : w'.tape = w.tape
  output : w'.output = w.output
  size : w.heap.size ≤ w'.heap.size
  obj : ∀ b, b < w.heap.size → ¬ B b → w'.heap[b]? = w.heap[b]?
theorem Kp.refl (B : Nat → Prop) (w : World) : Kp B w w := ⟨rfl, rfl, rfl, Nat.le_refl _, fun _ _ _ => rfl⟩
theorem Kp.trans {B C : Nat → Prop} {a b c : World} (h : Kp B a b) (k : Kp C b c) (hC : ∀ g, g < a.heap.size → C g → B g) : Kp B a c :=
  ⟨k.os.trans h.os, k.tape.trans h.tape, k.output.trans h.output, Nat.le_trans h.size k.size, fun g hg hB => (k.obj g (Nat.lt_of_lt_of_le hg h.size) (fun hc => hB (hC g hg hc))).trans (h.obj g hg hB)⟩
theorem Kp.mono {B C : Nat → Prop} {a b : World} (h : Kp B a b) (hm : ∀ g, g < a.heap.size → B g → C g) : Kp C a b :=
  ⟨h.os, h.tape, h.output, h.size, fun g hg hC => h.obj g hg (fun hB => hC (hm g hg hB))⟩
theorem Kp.row {B : Nat → Prop} {w w' : World} (h : Kp B w w') {g : Nat} {o : Obj} (e : w.heap[g]? = some o) (hB : ¬ B g) : w'.heap[g]? = some o := (h.obj g (row_lt e) hB).trans e
theorem Kp.below {B : Nat → Prop} {w w' : World} (h : Kp B w w') {n : Nat} (hn : n ≤ w.heap.size) (hB : ∀ g, g < n → ¬ B g) : Below n w w' :=
  ⟨h.os, h.tape, h.output, h.size, fun g hg => h.obj g (Nat.lt_of_lt_of_le hg hn) (hB g hg)⟩
theorem Kp.of {w w' : World} (B : Nat → Prop) (h : Below w.heap.size w w') : Kp B w w' := ⟨h.os, h.tape, h.output, h.size, fun g hg _ => h.block g hg⟩
theorem Kp.set (w : World) (N i : Nat) (v : Value) : Kp (fun b => b = N) w (w.setCell ⟨N, i, none⟩ v) :=
  ⟨rfl, rfl, rfl, by simp [World.setCell], fun b _ hN => heap_setCell_other _ _ _ _ (by show b ≠ N; exact hN)⟩

theorem own_same {base : Nat} {w w' : World} {e : TypeId} {size n : Nat} {v : Value} {xs : List Value} (h : w.ownsRow base e size v n xs) (hs : ∀ g, v.ownBlock = some g → w'.heap[g]? = w.heap[g]?) : w'.ownsRow base e size v n xs := by
  obtain ⟨h1, h2 | ⟨g, c, cur, rfl, r1, r2, r⟩⟩ := h
  · exact ⟨h1, .inl h2⟩
  · exact ⟨h1, .inr ⟨g, c, cur, rfl, r1, (hs g rfl).trans r2, r⟩⟩
theorem own_ty {base : Nat} {w : World} {e : TypeId} {size n : Nat} {v : Value} {xs : List Value} (h : w.ownsRow base e size v n xs) {g : Nat} (hg : v.ownBlock = some g) : ∃ cur, w.heap[g]? = some (.cells cur e (0, 0)) := by
  obtain ⟨h1, ⟨rfl, _⟩ | ⟨g', c, cur, rfl, r1, r2, r⟩⟩ := h
  · cases hg
  · cases hg; exact ⟨cur, r2⟩
theorem own_on {base : Nat} {w w' : World} {e : TypeId} {size n : Nat} {v : Value} {xs : List Value} (h : w.ownsRow base e size v n xs) (hb : Below w.heap.size w w') : w'.ownsRow base e size v n xs :=
  own_same h (fun g hg => by obtain ⟨c, e⟩ := own_ty h hg; exact hb.block g (row_lt e))
theorem own_base {base base' : Nat} {w : World} {e : TypeId} {size n : Nat} {v : Value} {xs : List Value} (h : w.ownsRow base e size v n xs) (hb : base' ≤ base) : w.ownsRow base' e size v n xs := by
  obtain ⟨h1, h2 | ⟨g, c, cur, h2, r1, r⟩⟩ := h
  · exact ⟨h1, .inl h2⟩
  · exact ⟨h1, .inr ⟨g, c, cur, h2, Nat.le_trans hb r1, r⟩⟩

/-- a slice begins a block. -/
def OfP (p : Option Addr) (b : Nat) : Prop := p = some ⟨b, 0, none⟩
theorem OfP.mk (g : Nat) : OfP (some ⟨g, 0, none⟩) g := rfl
theorem OfP.eq {g b : Nat} (h : OfP (some ⟨g, 0, none⟩) b) : b = g := by injection h with h; injection h with h; exact h.symm
theorem on_b {P : Program} {f : Nat} {args : Array Value} {w U : World} {v : Value} (h : Calls P f args U fun e w' => e = .returned v ∧ Below U.heap.size U w') (hU : Below w.heap.size w U) : Calls P f args U fun e w' => e = .returned v ∧ Hid (Below w.heap.size w w') :=
  h.mono (fun _ _ h => ⟨h.1, hid (btr hU h.2)⟩)
end Go.Proofs.YtnmkfdndfhefiaaGreat
namespace Go.Proofs.YtnmkfdndfhefiaaGreat
set_option linter.unusedVariables false
set_option linter.unusedSimpArgs false
/-- an interest. -/
structure It where
  id : Int
  mb : Int
  sd : Int
  ty : Int
  pr : Int
  qt : Int
deriving DecidableEq
/-- one stands ahead of another one of its side. -/
def ahd (i o : It) : Bool := if i.ty = o.ty then (if i.sd = 1 then decide (o.pr < i.pr) else decide (i.pr < o.pr)) else i.ty == 2
/-- it would trade at a price. -/
def acc (p : Int) (i : It) : Bool := if i.ty = 2 then true else if i.sd = 1 then decide (p ≤ i.pr) else decide (i.pr ≤ p)
/-- an interest of a side that may stand. -/
structure Ik (s : Int) (x : It) : Prop where
  sd : x.sd = s
  ty : x.ty = 1 ∨ x.ty = 2
  p0 : 0 ≤ x.pr
  p1 : x.pr < 262144
  mz : x.ty = 2 → x.pr = 0
  q0 : 1 ≤ x.qt
  q1 : x.qt ≤ 4294967295
/-- a side in its priority. -/
structure Sd (s : Int) (l : List It) : Prop where
  ok : ∀ x ∈ l, Ik s x
  so : l.Pairwise fun a b => ahd b a = false
  ln : l.length ≤ 4096
theorem Sd.nil (s : Int) : Sd s [] := ⟨by simp, .nil, by simp⟩
theorem ahd_up {s : Int} {x a b : It} (hx : Ik s x) (ha : Ik s a) (hb : Ik s b) (h : ahd x a = true) (k : ahd b a = false) : ahd x b = true := by
  obtain ⟨x1, x2, _, _, x3, _, _⟩ := hx
  obtain ⟨a1, a2, _, _, a3, _, _⟩ := ha
  obtain ⟨b1, b2, _, _, b3, _, _⟩ := hb
  unfold ahd at h k ⊢
  rw [x1] at h ⊢
  rw [b1] at k
  rcases x2 with x2 | x2 <;> rcases a2 with a2 | a2 <;> rcases b2 with b2 | b2 <;> rw [x2, a2] at h <;> rw [b2, a2] at k <;> rw [x2, b2] <;> (by_cases hs : s = 1) <;> simp [hs] at h k ⊢ <;> (have := x3; have := a3; have := b3; omega)
theorem ahd_asym {s : Int} {x a : It} (hx : Ik s x) (ha : Ik s a) (h : ahd x a = true) : ahd a x = false := by
  obtain ⟨x1, x2, _, _, x3, _, _⟩ := hx
  obtain ⟨a1, a2, _, _, a3, _, _⟩ := ha
  unfold ahd at h ⊢
  rw [x1] at h
  rw [a1]
  rcases x2 with x2 | x2 <;> rcases a2 with a2 | a2 <;> rw [x2, a2] at h <;> rw [a2, x2] <;> (by_cases hs : s = 1) <;> simp [hs] at h ⊢ <;> omega
theorem acc_up {s p : Int} {a b : It} (ha : Ik s a) (hb : Ik s b) (k : ahd b a = false) (h : acc p b = true) : acc p a = true := by
  obtain ⟨a1, a2, _, _, a3, _, _⟩ := ha
  obtain ⟨b1, b2, _, _, b3, _, _⟩ := hb
  unfold ahd at k
  unfold acc at h ⊢
  rw [b1] at k h
  rw [a1]
  rcases a2 with a2 | a2 <;> rcases b2 with b2 | b2 <;> rw [b2, a2] at k <;> rw [b2] at h <;> rw [a2] <;> (by_cases hs : s = 1) <;> simp [hs] at h k ⊢ <;> omega
theorem Sd.at' {s : Int} {l : List It} (h : Sd s l) {i j : Nat} (hi : i < l.length) (hj : j < l.length) (hij : i < j) : ahd l[j] l[i] = false := List.pairwise_iff_getElem.1 h.so i j hi hj hij
theorem Sd.ik {s : Int} {l : List It} (h : Sd s l) {i : Nat} (hi : i < l.length) : Ik s l[i] := h.ok _ (List.getElem_mem hi)
theorem Sd.up {s : Int} {l : List It} (h : Sd s l) {x : It} (hx : Ik s x) {i j : Nat} (hi : i < l.length) (hj : j < l.length) (hij : i ≤ j) (ht : ahd x l[i] = true) : ahd x l[j] = true := by
  by_cases e : i = j
  · subst e; exact ht
  · exact ahd_up hx (h.ik hi) (h.ik hj) ht (h.at' hi hj (by omega))
theorem Sd.acc {s p : Int} {l : List It} (h : Sd s l) {i j : Nat} (hi : i < l.length) (hj : j < l.length) (hij : i ≤ j) (ht : Go.Proofs.YtnmkfdndfhefiaaGreat.acc p l[j] = true) : Go.Proofs.YtnmkfdndfhefiaaGreat.acc p l[i] = true := by
  by_cases e : i = j
  · subst e; exact ht
  · exact acc_up (h.ik hi) (h.ik hj) (h.at' hi hj (by omega)) ht
/-- where an interest is put. -/
def bh (x : It) (l : List It) : Nat := (l.takeWhile fun y => !ahd x y).length
/-- how many would trade. -/
def wl (p : Int) (l : List It) : Nat := (l.takeWhile fun y => acc p y).length
theorem tw_le {α : Type} (f : α → Bool) (l : List α) : (l.takeWhile f).length ≤ l.length := (List.takeWhile_prefix f (l := l)).length_le
theorem tw_eq {α : Type} {f : α → Bool} : ∀ {l : List α} {i : Nat}, i ≤ l.length → (∀ k (hk : k < l.length), k < i → f l[k] = true) → (∀ (hk : i < l.length), f l[i] = false) → (l.takeWhile f).length = i
  | [], i, hi, _, _ => by simp at hi; subst hi; rfl
  | x :: l, 0, hi, _, h2 => by
    have := h2 (by simp)
    simp only [List.getElem_cons_zero] at this
    simp [List.takeWhile_cons, this]
  | x :: l, i + 1, hi, h1, h2 => by
    have a := h1 0 (by simp) (by omega)
    simp only [List.getElem_cons_zero] at a
    have e := tw_eq (f := f) (l := l) (i := i) (by simpa using hi) (fun k hk hki => by have := h1 (k + 1) (by simpa using hk) (by omega); simpa using this) (fun hk => by have := h2 (by simpa using hk); simpa using this)
    simp [List.takeWhile_cons, a, e]
theorem tw_lt {α : Type} {f : α → Bool} : ∀ {l : List α} {k : Nat} (hk : k < l.length), k < (l.takeWhile f).length → f l[k] = true
  | [], k, hk, _ => by simp at hk
  | x :: l, k, hk, h => by
    rw [List.takeWhile_cons] at h
    by_cases hx : f x = true
    · rw [if_pos hx] at h
      cases k with
      | zero => exact hx
      | succ k => simpa using tw_lt (l := l) (by simpa using hk) (by simpa using h)
    · rw [if_neg hx] at h; simp at h
theorem tw_at {α : Type} {f : α → Bool} : ∀ {l : List α} (hk : (l.takeWhile f).length < l.length), f (l[(l.takeWhile f).length]'hk) = false
  | [], hk => by simp at hk
  | x :: l, hk => by
    by_cases hx : f x = true
    · have e : ((x :: l).takeWhile f) = x :: l.takeWhile f := by rw [List.takeWhile_cons, if_pos hx]
      have := tw_at (f := f) (l := l) (by simpa [e] using hk)
      simp only [e, List.length_cons, List.getElem_cons_succ]
      exact this
    · have e : ((x :: l).takeWhile f) = [] := by rw [List.takeWhile_cons, if_neg hx]
      simp only [e, List.length_nil, List.getElem_cons_zero]
      simpa using hx
/-- an interest at a place. -/
def ins {α : Type} (i : Nat) (x : α) (l : List α) : List α := l.take i ++ x :: l.drop i
theorem ins_len {α : Type} {i : Nat} {x : α} {l : List α} (h : i ≤ l.length) : (ins i x l).length = l.length + 1 := by simp [ins]; omega
theorem ins_mem {α : Type} {i : Nat} {x y : α} {l : List α} : y ∈ ins i x l ↔ y = x ∨ y ∈ l := by
  unfold ins
  rw [List.mem_append, List.mem_cons]
  constructor
  · rintro (h | rfl | h)
    · exact .inr (List.mem_of_mem_take h)
    · exact .inl rfl
    · exact .inr (List.mem_of_mem_drop h)
  · rintro (rfl | h)
    · exact .inr (.inl rfl)
    · rw [← List.take_append_drop i l] at h
      rcases List.mem_append.1 h with h | h
      · exact .inl h
      · exact .inr (.inr h)
theorem ins_perm {α : Type} (i : Nat) (x : α) (l : List α) : (ins i x l).Perm (x :: l) := by
  unfold ins
  have := (List.perm_middle (a := x) (l₁ := l.take i) (l₂ := l.drop i))
  rw [List.take_append_drop] at this
  exact this
/-- a side with an interest more. -/
def ent (x : It) (l : List It) : List It := ins (bh x l) x l
theorem bh_le (x : It) (l : List It) : bh x l ≤ l.length := tw_le _ _
theorem Sd.ent {s : Int} {x : It} {l : List It} (h : Sd s l) (hx : Ik s x) (hl : l.length < 4096) : Sd s (Go.Proofs.YtnmkfdndfhefiaaGreat.ent x l) := by
  have hb := bh_le x l
  refine ⟨fun y hy => ?_, ?_, by unfold Go.Proofs.YtnmkfdndfhefiaaGreat.ent; rw [ins_len hb]; omega⟩
  · rcases ins_mem.1 hy with rfl | hy
    · exact hx
    · exact h.ok y hy
  · unfold Go.Proofs.YtnmkfdndfhefiaaGreat.ent ins
    have hso := h.so
    rw [← List.take_append_drop (bh x l) l] at hso
    obtain ⟨h1, h2, h3⟩ := List.pairwise_append.1 hso
    refine List.pairwise_append.2 ⟨h1, List.pairwise_cons.2 ⟨fun b hb' => ?_, h2⟩, fun a ha b hb' => ?_⟩
    · obtain ⟨k, hk, rfl⟩ := List.getElem_of_mem hb'
      rw [List.length_drop] at hk
      rw [List.getElem_drop]
      have hlt : bh x l < l.length := by omega
      have e1 : ahd x (l[bh x l]'hlt) = true := by
        have := tw_at (f := fun y => !ahd x y) (l := l) hlt
        simp only [Bool.not_eq_false'] at this
        exact this
      exact ahd_asym hx (h.ik (by omega)) (h.up hx hlt (by omega) (by omega) e1)
    · rcases List.mem_cons.1 hb' with rfl | hb'
      · obtain ⟨k, hk, rfl⟩ := List.getElem_of_mem ha
        rw [List.length_take] at hk
        rw [List.getElem_take]
        have := tw_lt (f := fun y => !ahd b y) (l := l) (k := k) (by omega) (by show k < bh b l; omega)
        simpa using this
      · exact h3 a ha b hb'
/-- how much interests have together. -/
def tot (l : List It) : Int := (l.map (·.qt)).sum
theorem tot_nil : tot [] = 0 := rfl
theorem tot_cons (x : It) (l : List It) : tot (x :: l) = x.qt + tot l := by simp [tot]
theorem tot_app (a b : List It) : tot (a ++ b) = tot a + tot b := by simp [tot]
theorem tot_bound {s : Int} : ∀ {l : List It}, (∀ x ∈ l, Ik s x) → 0 ≤ tot l ∧ tot l ≤ 4294967295 * l.length
  | [], _ => by simp [tot]
  | x :: l, h => by
    have := tot_bound (s := s) (l := l) (fun y hy => h y (by simp [hy]))
    have hx := h x (by simp)
    have := hx.q0
    have := hx.q1
    rw [tot_cons]
    simp only [List.length_cons]
    omega
/-- how much would be traded at a price. -/
def wd (p : Int) (l : List It) : Int := tot (l.take (wl p l))
theorem wd_filter {s p : Int} {l : List It} (h : Sd s l) : wd p l = tot (l.filter fun y => acc p y) := by
  unfold wd
  have hw : wl p l ≤ l.length := tw_le _ _
  have e : l.filter (fun y => acc p y) = l.take (wl p l) := by
    rw [show l.filter (fun y => acc p y) = (l.take (wl p l) ++ l.drop (wl p l)).filter (fun y => acc p y) by rw [List.take_append_drop], List.filter_append]
    have e1 : (l.take (wl p l)).filter (fun y => acc p y) = l.take (wl p l) := by
      rw [List.filter_eq_self]
      intro a ha
      obtain ⟨k, hk, rfl⟩ := List.getElem_of_mem ha
      rw [List.length_take] at hk
      rw [List.getElem_take]
      exact tw_lt (f := fun y => acc p y) (l := l) (k := k) (by omega) (by show k < wl p l; omega)
    have e2 : (l.drop (wl p l)).filter (fun y => acc p y) = [] := by
      rw [List.filter_eq_nil_iff]
      intro a ha hc
      obtain ⟨k, hk, rfl⟩ := List.getElem_of_mem ha
      rw [List.length_drop] at hk
      rw [List.getElem_drop] at hc
      have hlt : wl p l < l.length := by omega
      have e1 : acc p (l[wl p l]'hlt) = false := tw_at (f := fun y => acc p y) (l := l) hlt
      rw [h.acc hlt (by omega) (by omega) hc] at e1
      cases e1
    rw [e1, e2, List.append_nil]
  rw [e]
end Go.Proofs.YtnmkfdndfhefiaaGreat
namespace Go.Proofs.YtnmkfdndfhefiaaGreat
open Go.RowKit Go.Deep
set_option linter.unusedVariables false
set_option linter.unusedSimpArgs false
set_option maxHeartbeats 1000000
set_option maxRecDepth 100000
def irow (x : It) : Array Value := #[.int .u64 x.id, .int .u32 x.mb, .int .i64 x.sd, .int .i64 x.ty, .int .i64 x.pr, .int .u64 x.qt]
def its (l : List It) : List Value := l.flatMap fun x => (irow x).toList
theorem its_len (l : List It) : (its l).length = l.length * 6 := by
  induction l with
  | nil => rfl
  | cons x l ih => simp only [its, List.flatMap_cons, List.length_append, List.length_cons] at ih ⊢; rw [ih]; simp [irow]; omega
theorem its_get {l : List It} {i j : Nat} (hi : i < l.length) (hj : j < 6) : (its l)[i * 6 + j]? = (irow l[i]).toList[j]? := by
  induction l generalizing i with
  | nil => simp at hi
  | cons x l ih =>
    have hx : (irow x).toList.length = 6 := rfl
    cases i with
    | zero =>
      simp only [its, List.flatMap_cons, Nat.zero_mul, Nat.zero_add, List.getElem_cons_zero]
      rw [List.getElem?_append_left (by rw [hx]; omega)]
    | succ i =>
      have := ih (i := i) (by simpa using hi)
      simp only [its, List.flatMap_cons, List.getElem_cons_succ] at this ⊢
      rw [List.getElem?_append_right (by rw [hx]; omega), hx, show (i + 1) * 6 + j - 6 = i * 6 + j by omega]
      exact this
theorem irow_one (x : It) : ∀ u ∈ (irow x).toList, u.oneCell' = true := by
  intro v hv
  simp only [irow, List.mem_cons, List.not_mem_nil, or_false] at hv
  rcases hv with rfl | rfl | rfl | rfl | rfl | rfl <;> rfl
theorem its_one (l : List It) : ∀ u ∈ its l, u.oneCell' = true := by
  intro u hu
  simp only [its, List.mem_flatMap] at hu
  obtain ⟨x, _, hx⟩ := hu
  exact irow_one x u hx
theorem its_app (a b : List It) : its (a ++ b) = its a ++ its b := by simp [its]
theorem its_take (l : List It) (n : Nat) : (its l).take (n * 6) = its (l.take n) := by
  induction l generalizing n with
  | nil => simp [its]
  | cons x l ih =>
    cases n with
    | zero => simp [its]
    | succ n =>
      have := ih n
      simp only [its, List.flatMap_cons, List.take_succ_cons] at this ⊢
      rw [List.take_append, List.take_of_length_le (by simp [irow]; omega), show (n + 1) * 6 - (irow x).toList.length = n * 6 by simp [irow]; omega, this]
theorem its_drop (l : List It) (n : Nat) : (its l).drop (n * 6) = its (l.drop n) := by
  induction l generalizing n with
  | nil => simp [its]
  | cons x l ih =>
    cases n with
    | zero => simp [its]
    | succ n =>
      have := ih n
      simp only [its, List.flatMap_cons, List.drop_succ_cons] at this ⊢
      rw [List.drop_append, List.drop_of_length_le (by simp [irow]; omega), show (n + 1) * 6 - (irow x).toList.length = n * 6 by simp [irow]; omega, this, List.nil_append]
theorem own_form {base : Nat} {w : World} {e : TypeId} {size n : Nat} {v : Value} {xs : List Value} (h : w.ownsRow base e size v n xs) : ∃ p c, v = .slice p n c := by
  obtain ⟨_, ⟨rfl, rfl⟩ | ⟨g, c, cur, rfl, _⟩⟩ := h
  · exact ⟨none, 0, rfl⟩
  · exact ⟨_, _, rfl⟩
theorem grown_refl (w : World) (r : Option Nat) : w.grownBy w r := ⟨rfl, rfl, rfl, Nat.le_refl _, fun _ _ _ => rfl⟩
/-- interests in a slice of one's own. -/
def Li (w : World) (p : Option Addr) (c : Nat) (l : List It) : Prop := w.ownsRow 0 35 6 (.slice p l.length c) l.length (its l)
theorem Li.on {w w' : World} {p : Option Addr} {c : Nat} {l : List It} (h : Li w p c l) (hb : Below w.heap.size w w') : Li w' p c l := own_on h hb
theorem Li.nil (w : World) : Li w none 0 [] := ⟨rfl, .inl ⟨rfl, rfl⟩⟩
theorem Li.same {w w' : World} {p : Option Addr} {c : Nat} {l : List It} (h : Li w p c l) (hs : ∀ g, OfP p g → w'.heap[g]? = w.heap[g]?) : Li w' p c l :=
  own_same h (fun g hg => hs g (by
    obtain ⟨_, ⟨e, _⟩ | ⟨g', c', cur, e, _⟩⟩ := h
    · rw [e] at hg; cases hg
    · have e5 := (Value.slice.inj e).1
      rw [e] at hg; cases hg
      exact e5))
theorem Li.ty {w : World} {p : Option Addr} {c : Nat} {l : List It} (h : Li w p c l) {g : Nat} (hg : OfP p g) : ∃ cur, w.heap[g]? = Option.some (Obj.cells cur 35 (0, 0)) := by
  subst hg; exact own_ty h rfl
theorem Li.kept {w w' : World} {B : Nat → Prop} {p : Option Addr} {c : Nat} {l : List It} (h : Li w p c l) (hk : Kp B w w') (h1 : ∀ g, OfP p g → ¬ B g) : Li w' p c l :=
  h.same (fun g hg => by obtain ⟨cur, e⟩ := h.ty hg; exact hk.obj g (row_lt e) (h1 g hg))
theorem Li.some {w : World} {p : Option Addr} {c : Nat} {l : List It} (h : Li w p c l) (hl : 0 < l.length) : ∃ g cur, p = Option.some ⟨g, 0, none⟩ ∧ w.heap[g]? = Option.some (.cells cur 35 (0, 0)) ∧ cur.size = c * 6 ∧ l.length ≤ c ∧ c ≤ maxLen ∧ cur.toList.take (l.length * 6) = its l := by
  obtain ⟨h1, ⟨e, e2⟩ | ⟨g, c', cur, e, r1, r2, r3, r4, r5, r6⟩⟩ := h
  · omega
  · obtain ⟨rfl, _, rfl⟩ := Value.slice.inj e
    exact ⟨g, cur, rfl, r2, r5, r3, r4, r6⟩
theorem Li.cells {w : World} {p : Option Addr} {c : Nat} {l : List It} (h : Li w p c l) {i : Nat} (hi : i < l.length) : ∃ g, p = Option.some ⟨g, 0, none⟩ ∧ w.cell? ⟨g, i * 6, none⟩ = Option.some (.int .u64 l[i].id) ∧ w.cell? ⟨g, i * 6 + 1, none⟩ = Option.some (.int .u32 l[i].mb) ∧ w.cell? ⟨g, i * 6 + 2, none⟩ = Option.some (.int .i64 l[i].sd) ∧ w.cell? ⟨g, i * 6 + 3, none⟩ = Option.some (.int .i64 l[i].ty) ∧ w.cell? ⟨g, i * 6 + 4, none⟩ = Option.some (.int .i64 l[i].pr) ∧ w.cell? ⟨g, i * 6 + 5, none⟩ = Option.some (.int .u64 l[i].qt) := by
  obtain ⟨g, cur, rfl, r, _, _, _, hc⟩ := h.some (by omega)
  have go : ∀ j, j < 6 → w.cell? ⟨g, i * 6 + j, none⟩ = (irow l[i]).toList[j]? := fun j hj => by
    have := congrArg (fun z => z[i * 6 + j]?) hc
    have hlt : i * 6 + j < l.length * 6 := by omega
    simp only [List.getElem?_take, hlt, if_true, Array.getElem?_toList] at this
    rw [row_cell r, this, its_get hi hj]
  exact ⟨g, rfl, go 0 (by omega), go 1 (by omega), go 2 (by omega), go 3 (by omega), go 4 (by omega), go 5 (by omega)⟩
theorem Li.cap {w : World} {p : Option Addr} {c : Nat} {l : List It} (h : Li w p c l) : l.length ≤ c ∧ c < 9223372036854775808 := by
  obtain ⟨h1, ⟨e, e2⟩ | ⟨g, c', cur, e, r1, r2, r3, r4, r5, r6⟩⟩ := h
  · obtain ⟨_, _, rfl⟩ := Value.slice.inj e; omega
  · obtain ⟨_, _, rfl⟩ := Value.slice.inj e; unfold maxLen at r4; omega
theorem Li.none' {w : World} {c : Nat} {l : List It} (h : Li w none c l) : l = [] ∧ c = 0 := by
  obtain ⟨h1, ⟨e, e2⟩ | ⟨g, c', cur, e, _⟩⟩ := h
  · obtain ⟨_, h2, rfl⟩ := Value.slice.inj e; exact ⟨List.length_eq_zero_iff.1 h2, rfl⟩
  · cases (Value.slice.inj e).1
/-- a price is a tick. -/
def isP (p : Int) : Bool := decide (0 ≤ p ∧ p < 262144)
theorem isPrice_any (p : Int) (w : World) : Calls Tryz.prog 26 #[.int .i64 p] w fun e w' => e = .returned (.bool (isP p)) ∧ w' = w := by
  by_cases h1 : 0 ≤ p
  · go_enter Tryz.func26, Tryz.ntmps26
    go_wp2
    go_ret
    exact ⟨by simp [isP, h1], rfl⟩
  · have hf : isP p = false := by simp only [isP, decide_eq_false_iff_not]; omega
    rw [hf]
    go_enter Tryz.func26, Tryz.ntmps26
    go_wp2
    go_ret
    exact ⟨rfl, rfl⟩
def isS (s : Int) : Bool := decide (s = 1 ∨ s = 2)
theorem isSide_any (s : Int) (w : World) : Calls Tryz.prog 44 #[.int .i64 s] w fun e w' => e = .returned (.bool (isS s)) ∧ w' = w := by
  by_cases h1 : s = 1
  · subst h1
    go_enter Tryz.func44, Tryz.ntmps44
    go_wp2
    go_ret
    exact ⟨by simp [isS], rfl⟩
  · have h2 : (s == 1) = false := by simpa using h1
    go_enter Tryz.func44, Tryz.ntmps44
    go_wp2
    go_ret
    refine ⟨?_, rfl⟩
    have : isS s = (s == 2) := by simp [isS, h1]; rfl
    rw [this]; rfl
theorem of1 (B : Nat) (w : World) : Calls Tryz.prog 30 #[.pointer (some ⟨B, 0, none⟩), .int .i64 1] w fun e w' => e = .returned (.pointer (some ⟨B, 2, none⟩)) ∧ w' = w := by
  go_enter Tryz.func30, Tryz.ntmps30
  go_wp2
  go_ret
  exact ⟨rfl, rfl⟩
theorem of2 (B : Nat) (w : World) : Calls Tryz.prog 30 #[.pointer (some ⟨B, 0, none⟩), .int .i64 2] w fun e w' => e = .returned (.pointer (some ⟨B, 3, none⟩)) ∧ w' = w := by
  go_enter Tryz.func30, Tryz.ntmps30
  go_wp2
  go_ret
  exact ⟨rfl, rfl⟩
theorem ahead_any (x y : It) (w : World) : Calls Tryz.prog 51 #[.agg #[.int .u64 x.id, .int .u32 x.mb, .int .i64 x.sd, .int .i64 x.ty, .int .i64 x.pr, .int .u64 x.qt], .agg #[.int .u64 y.id, .int .u32 y.mb, .int .i64 y.sd, .int .i64 y.ty, .int .i64 y.pr, .int .u64 y.qt]] w fun e w' => e = .returned (.bool (ahd x y)) ∧ Below w.heap.size w w' := by
  by_cases h1 : x.ty = y.ty
  · by_cases h2 : x.sd = 1
    · have q1 : (x.ty != y.ty) = false := by simpa using h1
      have q2 : (x.sd == 1) = true := by simpa using h2
      have H := hid (show ahd x y = decide (y.pr < x.pr) by simp [ahd, h1, h2])
      clear h1 h2
      go_enter Tryz.func51, Tryz.ntmps51
      go_wp2
      go_ret
      exact ⟨by rw [H.out]; rfl, btr (ball _ _) (ball _ _)⟩
    · have q1 : (x.ty != y.ty) = false := by simpa using h1
      have q2 : (x.sd == 1) = false := by simpa using h2
      have H := hid (show ahd x y = decide (x.pr < y.pr) by simp [ahd, h1, h2])
      clear h1 h2
      go_enter Tryz.func51, Tryz.ntmps51
      go_wp2
      go_ret
      exact ⟨by rw [H.out]; rfl, btr (ball _ _) (ball _ _)⟩
  · have q1 : (x.ty != y.ty) = true := by simpa using h1
    have H := hid (show ahd x y = (x.ty == 2) by simp [ahd, h1])
    clear h1
    go_enter Tryz.func51, Tryz.ntmps51
    go_wp2
    go_ret
    exact ⟨by rw [H.out]; rfl, btr (ball _ _) (ball _ _)⟩
theorem accepts_any (x : It) (p : Int) (w : World) : Calls Tryz.prog 74 #[.agg #[.int .u64 x.id, .int .u32 x.mb, .int .i64 x.sd, .int .i64 x.ty, .int .i64 x.pr, .int .u64 x.qt], .int .i64 p] w fun e w' => e = .returned (.bool (acc p x)) ∧ Below w.heap.size w w' := by
  by_cases h1 : x.ty = 2
  · have q1 : (x.ty == 2) = true := by simpa using h1
    have H := hid (show acc p x = true by simp [acc, h1])
    clear h1
    go_enter Tryz.func74, Tryz.ntmps74
    go_wp2
    go_ret
    exact ⟨by rw [H.out]; rfl, ball _ _⟩
  · have q1 : (x.ty == 2) = false := by simpa using h1
    by_cases h2 : x.sd = 1
    · have q2 : (x.sd == 1) = true := by simpa using h2
      have H := hid (show acc p x = decide (p ≤ x.pr) by simp [acc, h1, h2])
      clear h1 h2
      go_enter Tryz.func74, Tryz.ntmps74
      go_wp2
      go_ret
      exact ⟨by rw [H.out]; rfl, ball _ _⟩
    · have q2 : (x.sd == 1) = false := by simpa using h2
      have H := hid (show acc p x = decide (x.pr ≤ p) by simp [acc, h1, h2])
      clear h1 h2
      go_enter Tryz.func74, Tryz.ntmps74
      go_wp2
      go_ret
      exact ⟨by rw [H.out]; rfl, ball _ _⟩
end Go.Proofs.YtnmkfdndfhefiaaGreat
namespace Go.Proofs.YtnmkfdndfhefiaaGreat
open Go.RowKit Go.Deep
set_option linter.unusedVariables false
set_option linter.unusedSimpArgs false
set_option maxHeartbeats 2000000
set_option maxRecDepth 100000
theorem willing1_any (L P : Nat) (p : Int) (q : Option Addr) (c : Nat) (l : List It) (i : Nat) (hi : i < l.length) (w : World) (h : Li w q c l) (hL : w.cell? ⟨L, 0, none⟩ = some (.slice q l.length c)) (hP : w.cell? ⟨P, 0, none⟩ = some (.int .i64 p)) (hsL : L < w.heap.size) (hsP : P < w.heap.size) :
    Calls Tryz.prog 73 #[.int .i64 i, .pointer (some ⟨L, 0, none⟩), .pointer (some ⟨P, 0, none⟩)] w fun e w' => e = .returned (.bool (!acc p l[i])) ∧ Below w.heap.size w w' := by
  obtain ⟨g, rfl, a0, a1, a2, a3, a4, a5⟩ := h.cells hi
  obtain ⟨cu, hg⟩ := h.ty (OfP.mk g)
  have sg := row_lt hg
  obtain ⟨z, hz⟩ : ∃ z, l[i] = z := ⟨_, rfl⟩
  rw [hz] at a0 a1 a2 a3 a4 a5 ⊢
  obtain ⟨n, hn⟩ : ∃ n, l.length = n := ⟨_, rfl⟩
  rw [hn] at hL
  have i0 : (0 : Int) ≤ (i : Int) := by omega
  have i1 : (i : Int) < (n : Int) := by omega
  have HS := hid (show ∀ U, Below w.heap.size w U → U.cell? ⟨L, 0, none⟩ = some (.slice (some ⟨g, 0, none⟩) n c) ∧ U.cell? ⟨P, 0, none⟩ = some (.int .i64 p) ∧ U.cell? ⟨g, i * 6, none⟩ = some (.int .u64 z.id) ∧ U.cell? ⟨g, i * 6 + 1, none⟩ = some (.int .u32 z.mb) ∧ U.cell? ⟨g, i * 6 + 2, none⟩ = some (.int .i64 z.sd) ∧ U.cell? ⟨g, i * 6 + 3, none⟩ = some (.int .i64 z.ty) ∧ U.cell? ⟨g, i * 6 + 4, none⟩ = some (.int .i64 z.pr) ∧ U.cell? ⟨g, i * 6 + 5, none⟩ = some (.int .u64 z.qt) from fun U hU => ⟨(hU.cell (p := ⟨L, 0, none⟩) hsL).trans hL, (hU.cell (p := ⟨P, 0, none⟩) hsP).trans hP, (hU.cell (p := ⟨g, i * 6, none⟩) sg).trans a0, (hU.cell (p := ⟨g, i * 6 + 1, none⟩) sg).trans a1, (hU.cell (p := ⟨g, i * 6 + 2, none⟩) sg).trans a2, (hU.cell (p := ⟨g, i * 6 + 3, none⟩) sg).trans a3, (hU.cell (p := ⟨g, i * 6 + 4, none⟩) sg).trans a4, (hU.cell (p := ⟨g, i * 6 + 5, none⟩) sg).trans a5⟩)
  have C := hid (fun U (hU : Below w.heap.size w U) => on_b (accepts_any z p U) hU)
  clear h hz hn hg hi
  go_enter Tryz.func73, Tryz.ntmps73
  go_upto_region 1 with fail
  go_region_held3 (fun U => U.cell? ⟨L, 0, none⟩ = some (.slice (some ⟨g, 0, none⟩) n c) ∧ U.cell? ⟨P, 0, none⟩ = some (.int .i64 p) ∧ U.cell? ⟨g, i * 6, none⟩ = some (.int .u64 z.id) ∧ U.cell? ⟨g, i * 6 + 1, none⟩ = some (.int .u32 z.mb) ∧ U.cell? ⟨g, i * 6 + 2, none⟩ = some (.int .i64 z.sd) ∧ U.cell? ⟨g, i * 6 + 3, none⟩ = some (.int .i64 z.ty) ∧ U.cell? ⟨g, i * 6 + 4, none⟩ = some (.int .i64 z.pr) ∧ U.cell? ⟨g, i * 6 + 5, none⟩ = some (.int .u64 z.qt)) (go_keep) (first | (go_at_call 74; with_reducible refine (C.out _ (bdrew1 w)).mono ?_; rintro e w1 ⟨rfl, HB1⟩; obtain ⟨k0, k1, k2, k3, k4, k5, k6, k7⟩ := HS.out w1 HB1.out))
  go_wp2
  go_ret
  exact ⟨rfl, HB1.out⟩
theorem search_w (L P : Nat) (s p : Int) (q : Option Addr) (c : Nat) (l : List It) (w : World) (h : Li w q c l) (hL : w.cell? ⟨L, 0, none⟩ = some (.slice q l.length c)) (hP : w.cell? ⟨P, 0, none⟩ = some (.int .i64 p)) (hsL : L < w.heap.size) (hsP : P < w.heap.size) (ho : Sd s l) :
    Calls Tryz.prog 49 #[.int .i64 l.length, .func (.func 73) #[] #[.pointer (some ⟨L, 0, none⟩), .pointer (some ⟨P, 0, none⟩)]] w fun e w' => e = .returned (.int .i64 (wl p l)) ∧ Below w.heap.size w w' := by
  have hn := ho.ln
  have HL := hid h
  have HC := hid (And.intro hL hP)
  have HO := hid ho
  clear h hL hP ho
  go_enter Tryz.func49, Tryz.ntmps49
  go_wp2
  go_loopw [5, 6] (fun iv jv wr => ∃ i j : Nat, i ≤ j ∧ j ≤ l.length ∧ iv = .int .i64 i ∧ jv = .int .i64 j ∧ Hid (∀ k (hk : k < l.length), k < i → acc p l[k] = true) ∧ Hid (∀ k (hk : k < l.length), j ≤ k → acc p l[k] = false) ∧ Hid (Below w.heap.size w wr)) (fun iv jv _ => (intOf jv).toNat - (intOf iv).toNat)
  case atStart => exact ⟨0, l.length, by omega, by omega, rfl, rfl, fun k _ hk => by omega, fun k _ hk => by omega, Below.refl _ _⟩
  case round =>
    obtain ⟨i, j, hij, hj, rfl, rfl, H1, H2, HB⟩ := hrel
    by_cases hlt : i < j
    · obtain ⟨m, hm⟩ : ∃ m, (i + j) / 2 = m := ⟨_, rfl⟩
      have hm1 : i ≤ m := by omega
      have hm2 : m < j := by omega
      have hml : m < l.length := by omega
      have C1 := hid (willing1_any L P p q c l m hml wr (HL.out.on HB.out) ((HB.out.cell (p := ⟨L, 0, none⟩) hsL).trans HC.out.1) ((HB.out.cell (p := ⟨P, 0, none⟩) hsP).trans HC.out.2) (Nat.lt_of_lt_of_le hsL HB.out.size) (Nat.lt_of_lt_of_le hsP HB.out.size))
      have a1 : IntKind.u64.wrap ((i : Int) + (j : Int)) = (i : Int) + (j : Int) := by rw [IntKind.wrap_u64]; omega
      have a2 : ((i : Int) + (j : Int)) / 2 = (m : Int) := by omega
      have a3 : IntKind.i64.wrap (m : Int) = (m : Int) := by rw [IntKind.wrap_i64]; omega
      have HM := hid hm
      clear hm
      obtain ⟨bv, hbv⟩ : ∃ b, acc p l[m] = b := ⟨_, rfl⟩
      rw [hbv] at C1
      have HBV := hid hbv
      clear hbv
      cases bv with
      | false =>
        simp only [Bool.not_false] at C1
        go_wp2_with (go_at_call 73; with_reducible refine (C1.out).mono ?_; rintro e w1 ⟨rfl, hb1⟩; have HB1 := hid hb1; clear hb1)
        go_roundw
        case rel =>
          refine ⟨i, m, hm1, by omega, rfl, rfl, H1.out, fun k hk hmk => ?_, btr HB.out HB1.out⟩
          cases hx : acc p l[k] with
          | false => rfl
          | true =>
            have := HO.out.acc hml hk hmk hx
            rw [HBV.out] at this; cases this
        case measure => simp [intOf]; omega
      | true =>
        simp only [Bool.not_true] at C1
        go_wp2_with (go_at_call 73; with_reducible refine (C1.out).mono ?_; rintro e w1 ⟨rfl, hb1⟩; have HB1 := hid hb1; clear hb1)
        go_roundw
        case rel => exact ⟨m + 1, j, by omega, by omega, by go_num, rfl, fun k hk hkm => HO.out.acc hk hml (by omega) HBV.out, H2.out, btr HB.out HB1.out⟩
        case measure => simp [intOf]; omega
    · have hi5 : i = j := by omega
      subst hi5
      go_wp2
      go_ret
      exact ⟨by rw [show wl p l = i from tw_eq hj (fun k hk hki => H1.out k hk hki) (fun hk => H2.out i hk (Nat.le_refl _))]; rfl, HB.out⟩
theorem willing_any (s p : Int) (q : Option Addr) (c : Nat) (l : List It) (w : World) (h : Li w q c l) (ho : Sd s l) :
    Calls Tryz.prog 56 #[.slice q l.length c, .int .i64 p] w fun e w' => e = .returned (.int .i64 (wl p l)) ∧ Below w.heap.size w w' := by
  obtain ⟨W, hW⟩ : ∃ W, (w.alloc (.cells #[.slice q l.length c] 71)).alloc (.cells #[.int .i64 p] 3) = W := ⟨_, rfl⟩
  have hB : Below w.heap.size w W := by rw [← hW]; exact btr (ball _ _) (ball _ _)
  have r1 : W.heap[w.heap.size]? = some (.cells #[.slice q l.length c] 71 (0, 0)) := by rw [← hW]; exact row_on (World.alloc_heap_new _ _) (ball _ _)
  have r2 : W.heap[w.heap.size + 1]? = some (.cells #[.int .i64 p] 3 (0, 0)) := by
    rw [← hW]
    have := World.alloc_heap_new (w.alloc (.cells #[.slice q l.length c] 71)) (.cells #[.int .i64 p] 3)
    simpa using this
  have C := hid (search_w w.heap.size (w.heap.size + 1) s p q c l W (h.on hB) (by rw [row_cell r1]; rfl) (by rw [row_cell r2]; rfl) (row_lt r1) (row_lt r2) ho)
  have HB := hid hB
  have HW := hid hW
  clear h ho hB r1 r2 hW
  go_enter Tryz.func56, Tryz.ntmps56
  go_wp2_with (go_at_call 49; rw [HW.out]; with_reducible refine (C.out).mono ?_; rintro e w1 ⟨rfl, hb⟩)
  go_ret
  exact ⟨rfl, HB.out.trans (hb.mono HB.out.size)⟩
theorem take_tot {l : List It} {i : Nat} (hi : i < l.length) : tot (l.take (i + 1)) = tot (l.take i) + l[i].qt := by
  rw [List.take_succ_eq_append_getElem hi, tot_app, tot_cons, tot_nil, Int.add_zero]
theorem Sd.tot {s : Int} {l : List It} (h : Sd s l) (i : Nat) : 0 ≤ tot (l.take i) ∧ tot (l.take i) ≤ 17592186044416 := by
  have a := tot_bound (s := s) (l := l.take i) (fun x hx => h.ok x (List.mem_of_mem_take hx))
  have b := h.ln
  have c : (l.take i).length ≤ l.length := by simp; omega
  omega
theorem would_any (s p : Int) (q : Option Addr) (c : Nat) (l : List It) (w : World) (h : Li w q c l) (ho : Sd s l) :
    Calls Tryz.prog 34 #[.slice q l.length c, .int .i64 p] w fun e w' => e = .returned (.int .u64 (wd p l)) ∧ Below w.heap.size w w' := by
  have hln := ho.ln
  obtain ⟨hc1, hc2⟩ := h.cap
  have C := hid (fun U hU => willing_any s p q c l U (h.on hU) ho)
  have HL := hid h
  have HO := hid ho
  have hwl : wl p l ≤ l.length := tw_le _ _
  obtain ⟨m, hm⟩ : ∃ m, wl p l = m := ⟨_, rfl⟩
  obtain ⟨n, hn⟩ : ∃ n, l.length = n := ⟨_, rfl⟩
  have HM := hid hm
  have HN := hid hn
  rw [hm] at C hwl
  rw [hn] at C hwl hln hc1 ⊢
  have hmc : (m : Int) ≤ (c : Int) := by omega
  have HE := hid (show wd p l = tot (l.take m) by rw [← hm]; rfl)
  clear hm hn h ho
  go_enter Tryz.func34, Tryz.ntmps34
  go_wp2_with (go_at_call 56; with_reducible refine (C.out _ (Below.refl _ _)).mono ?_; rintro e w1 ⟨rfl, hb⟩; have HB0 := hid hb; clear hb)
  go_loopw [14, 5] (fun iv qv wr => ∃ i : Nat, i ≤ m ∧ iv = .int .i64 i ∧ qv = .int .u64 (tot (l.take i)) ∧ Hid (Below w.heap.size w wr)) (fun iv _ _ => m - (intOf iv).toNat)
  case atStart => exact ⟨0, Nat.zero_le _, rfl, by simp [tot], HB0.out⟩
  case round =>
    obtain ⟨i, him, rfl, rfl, HB⟩ := hrel
    by_cases hlt : i < m
    · have hi : i < l.length := by rw [HN.out]; omega
      obtain ⟨g, hp, a0, a1, a2, a3, a4, a5⟩ := (HL.out.on HB.out).cells hi
      subst hp
      have q1 := HO.out.tot (i + 1)
      rw [take_tot hi] at q1
      have HT := hid (take_tot hi)
      obtain ⟨z, hz⟩ : ∃ z, l[i] = z := ⟨_, rfl⟩
      rw [hz] at a0 a1 a2 a3 a4 a5 q1 HT
      obtain ⟨t, ht⟩ : ∃ t, tot (l.take i) = t := ⟨_, rfl⟩
      rw [ht] at q1 HT ⊢
      have a6 : IntKind.u64.wrap (t + z.qt) = t + z.qt := by rw [IntKind.wrap_u64]; omega
      have i0 : (0 : Int) ≤ (i : Int) := by omega
      have i1 : (i : Int) < (m : Int) := by omega
      clear hz ht q1
      go_wp2
      go_roundw
      case rel => exact ⟨i + 1, by omega, by go_num, by rw [HT.out], btr HB.out (ball _ _)⟩
      case measure => simp [intOf]; omega
    · obtain rfl : i = m := by omega
      go_wp2
      go_ret
      exact ⟨by rw [HE.out]; rfl, HB.out⟩
end Go.Proofs.YtnmkfdndfhefiaaGreat
namespace Go.Proofs.YtnmkfdndfhefiaaGreat
open Go.RowKit Go.Deep
set_option linter.unusedVariables false
set_option linter.unusedSimpArgs false
set_option maxHeartbeats 2000000
set_option maxRecDepth 100000
/-- a call of two sides. -/
structure Cl (w : World) (B : Nat) (r m : Int) (p1 : Option Addr) (c1 : Nat) (b : List It) (p2 : Option Addr) (c2 : Nat) (s : List It) : Prop where
  row : w.heap[B]? = some (.cells #[.int .i64 r, .int .i64 m, .slice p1 b.length c1, .slice p2 s.length c2] 74 (0, 0))
  l1 : Li w p1 c1 b
  l2 : Li w p2 c2 s
  s1 : Sd 1 b
  s2 : Sd 2 s
  ap : ∀ g, OfP p1 g → ¬ OfP p2 g
  r0 : 0 ≤ r
  r1 : r < 262144
  m0 : 1 ≤ m
  m1 : m ≤ 4096
  mb : (b.length : Int) + s.length ≤ m
theorem Cl.on {w w' : World} {B : Nat} {r m : Int} {p1 : Option Addr} {c1 : Nat} {b : List It} {p2 : Option Addr} {c2 : Nat} {s : List It} (h : Cl w B r m p1 c1 b p2 c2 s) (hb : Below w.heap.size w w') : Cl w' B r m p1 c1 b p2 c2 s :=
  ⟨row_on h.row hb, h.l1.on hb, h.l2.on hb, h.s1, h.s2, h.ap, h.r0, h.r1, h.m0, h.m1, h.mb⟩
theorem row4 {w : World} {g : Nat} {t : TypeId} {a0 a1 a2 a3 : Value} (h : w.heap[g]? = some (.cells #[a0, a1, a2, a3] t (0, 0))) : w.cell? ⟨g, 0, none⟩ = some a0 ∧ w.cell? ⟨g, 1, none⟩ = some a1 ∧ w.cell? ⟨g, 2, none⟩ = some a2 ∧ w.cell? ⟨g, 3, none⟩ = some a3 :=
  ⟨row_cell h 0, row_cell h 1, row_cell h 2, row_cell h 3⟩
theorem Cl.cells {w : World} {B : Nat} {r m : Int} {p1 : Option Addr} {c1 : Nat} {b : List It} {p2 : Option Addr} {c2 : Nat} {s : List It} (h : Cl w B r m p1 c1 b p2 c2 s) : w.cell? ⟨B, 0, none⟩ = some (.int .i64 r) ∧ w.cell? ⟨B, 1, none⟩ = some (.int .i64 m) ∧ w.cell? ⟨B, 2, none⟩ = some (.slice p1 b.length c1) ∧ w.cell? ⟨B, 3, none⟩ = some (.slice p2 s.length c2) := row4 h.row
theorem len_any (B : Nat) (r m : Int) (p1 : Option Addr) (c1 : Nat) (b : List It) (p2 : Option Addr) (c2 : Nat) (s : List It) (w : World) (h : Cl w B r m p1 c1 b p2 c2 s) :
    Calls Tryz.prog 14 #[.pointer (some ⟨B, 0, none⟩)] w fun e w' => e = .returned (.int .i64 ((b.length : Int) + s.length)) ∧ ∃ n, w' = w.drewN n := by
  obtain ⟨k0, k1, k2, k3⟩ := h.cells
  have hb := h.s1.ln
  have hs := h.s2.ln
  have a1 : IntKind.i64.wrap ((b.length : Int) + (s.length : Int)) = (b.length : Int) + s.length := by rw [IntKind.wrap_i64]; omega
  clear h
  go_enter Tryz.func14, Tryz.ntmps14
  go_upto_region 1 with fail
  go_quiet (first | (go_at_call 30; with_reducible exact Calls.quiet_of_same (of1 B _)) | (go_at_call 30; with_reducible exact Calls.quiet_of_same (of2 B _)))
  go_wp2
  go_ret
  exact ⟨rfl, _, rfl⟩
theorem curve_any (B : Nat) (r m p : Int) (p1 : Option Addr) (c1 : Nat) (b : List It) (p2 : Option Addr) (c2 : Nat) (s : List It) (w : World) (h : Cl w B r m p1 c1 b p2 c2 s) :
    Calls Tryz.prog 15 #[.pointer (some ⟨B, 0, none⟩), .int .i64 p] w fun e w' => e = .returned (.tuple #[.int .u64 (wd p b), .int .u64 (wd p s)]) ∧ Below w.heap.size w w' := by
  obtain ⟨k0, k1, k2, k3⟩ := h.cells
  have C1 := hid (would_any 1 p p1 c1 b w h.l1 h.s1)
  have C2 := hid (fun U hU => on_b (would_any 2 p p2 c2 s U (h.l2.on hU) h.s2) hU)
  have HC := hid h
  have O1 := hid (fun U => of1 B U)
  have O2 := hid (fun U => of2 B U)
  clear h
  go_enter Tryz.func15, Tryz.ntmps15
  go_wp2_with (first | (go_at_call 30; with_reducible refine (O1.out _).mono ?_; rintro e w1 ⟨rfl, rfl⟩) | (go_at_call 30; with_reducible refine (O2.out _).mono ?_; rintro e w1 ⟨rfl, rfl⟩) | (go_at_call 34; with_reducible refine (C1.out).mono ?_; rintro e w2 ⟨rfl, hb⟩; have HB := hid hb; obtain ⟨k0, k1, k2, k3⟩ := (HC.out.on hb).cells; clear hb) | (go_at_call 34; with_reducible refine (C2.out _ HB.out).mono ?_; rintro e w3 ⟨rfl, HB3⟩))
  go_ret2
  exact ⟨rfl, HB3.out⟩
theorem info_parts {e : TypeId} {z : Value} {size bytes : Nat} (h : (Tryz.prog.info? e).map (fun i => (i.zero, i.size, i.bytes)) = some (some z, size, bytes)) : ∃ i0, Tryz.prog.info? e = some i0 ∧ i0.zero = some z ∧ i0.size = size ∧ i0.bytes = bytes := by
  cases hq : Tryz.prog.info? e with
  | none => rw [hq] at h; cases h
  | some i =>
    rw [hq] at h
    simp only [Option.map_some, Option.some.injEq, Prod.mk.injEq] at h
    exact ⟨i, rfl, h.1, h.2.1, h.2.2⟩
theorem infoIt : (Tryz.prog.info? 35).map (fun i => (i.zero, i.size, i.bytes)) = some (some (.agg #[.int .u64 0, .int .u32 0, .int .i64 0, .int .i64 0, .int .i64 0, .int .u64 0]), 6, 48) := by kernel_rfl
theorem made0 {w : World} (U : World) (t : TypeId) (size : Nat) (h : w.heap.size ≤ U.heap.size) : (U.alloc (.cells #[] t)).ownsRow w.heap.size t size (.slice (some ⟨U.heap.size, 0, none⟩) 0 0) 0 [] := World.ownsRow_made U #[] 0 h (by unfold maxLen; omega) (by simp)
theorem own_cells {base : Nat} {w : World} {e : TypeId} {size n c : Nat} {ad : Addr} {xs : List Value} (h : w.ownsRow base e size (.slice (some ad) n c) n xs) : xs.length = n * size ∧ ∀ j u, xs[j]? = some u → w.cell? (ad.add j) = some u := by
  obtain ⟨h1, ⟨e', e2⟩ | ⟨g, c', cur, e', r1, r2, r3, r4, r5, r6⟩⟩ := h
  · cases (Value.slice.inj e').1
  · obtain ⟨e3, _, rfl⟩ := Value.slice.inj e'
    injection e3 with e3
    subst e3
    refine ⟨h1, fun j u hj => ?_⟩
    rw [Addr.add_lit, Nat.zero_add, row_cell r2]
    have hl := (List.getElem?_eq_some_iff.1 hj).1
    have := congrArg (fun z => z[j]?) r6
    simp only [List.getElem?_take, show j < n * size by omega, if_true, Array.getElem?_toList] at this
    rw [this, hj]
/-- one's own rows are put behind an empty slice of one's own. -/
theorem wpList_app_mine {w : World} {ops : Array Oper} {rest : List Oper} {oo : Oper} {a : Act} {Q : Exit → Act → World → Prop} (hgd : oo.guard = none) (s x : Operand) (t e : TypeId) (z : Value) (size bytes : Nat)
    (ho : oo.op = .call { callee := .builtin .append, args := #[s, x], argTypes := #[t, t] }) (ht : Tryz.prog.underlying t = some (.slice e)) (hinf : (Tryz.prog.info? e).map (fun i => (i.zero, i.size, i.bytes)) = some (some z, size, bytes)) (hzs : z.cells.size = size) (hsz : 0 < size)
    (base base2 : Nat) (v : Value) (n : Nat) (ys : List Value) (hs : a.eval s = v) (hown : w.ownsRow base e size v n ys)
    (q : Option Addr) (c m : Nat) (xs : List Value) (hx : a.eval x = .slice q m c) (ho2 : w.ownsRow base2 e size (.slice q m c) m xs) (h1 : ∀ u ∈ xs, u.oneCell' = true)
    (h63 : n + m ≤ maxLen) (hbytes : (n + m) * bytes ≤ 140737488355328) (hbase : base ≤ w.heap.size)
    (h : ∀ v' w', w'.ownsRow base e size v' (n + m) (ys ++ xs) → w.grownBy w' v.ownBlock → wpList Tryz.prog ops Q rest (a.put oo.dst v') w') : wpList Tryz.prog ops Q (oo :: rest) a w := by
  obtain ⟨i0, hi, hz0, hz1, hz2⟩ := info_parts hinf
  cases q with
  | none =>
    obtain ⟨h2, ⟨e1, e2⟩ | ⟨g, c', cur, e1, _⟩⟩ := ho2
    · obtain ⟨_, h3, rfl⟩ := Value.slice.inj e1
      subst h3
      obtain rfl : xs = [] := List.length_eq_zero_iff.1 (by simpa using h2)
      exact wpList_append_own_none hgd s x t ho base e i0 size ht hi v n ys hs hown hx (h v w (by simpa using hown) (grown_refl _ _))
    · cases (Value.slice.inj e1).1
  | some ad =>
    obtain ⟨k1, k2⟩ := own_cells ho2
    exact wpList_append_own _ hgd s x t ho base e i0 _ size bytes ht hi hz0 hz1 hz2 hzs hsz v n ys hs hown ad m c xs hx k1 k2 h1 h63 hbytes hbase (fun v' w' h2 h3 _ => h v' w' h2 h3)
theorem nilI (U : World) (a : Option Addr) (n c : Nat) : (binOp .eql 71 (.slice a n c) (.slice none 0 0)).run Tryz.prog U = .ok (.bool a.isNone) U := Lib.run_eql_slice_nil U 71 35 a n c 0 0 Tryz.underlying71
theorem cloneI_any (q : Option Addr) (c : Nat) (l : List It) (w : World) (h : Li w q c l) (hl : l.length ≤ 4096) :
    Calls Tryz.prog 45 #[.slice q l.length c] w fun e w' => ∃ p' c', e = .returned (.slice p' l.length c') ∧ Li w' p' c' l ∧ Below w.heap.size w w' ∧ ∀ g, OfP p' g → w.heap.size ≤ g := by
  cases q with
  | none =>
    obtain ⟨rfl, rfl⟩ := h.none'
    clear h hl
    have nq := nilI
    go_enter Tryz.func45, Tryz.ntmps45
    go_wp2
    go_ret
    exact ⟨none, 0, rfl, Li.nil _, Below.refl _ _, fun g hg => by cases hg⟩
  | some ad =>
    obtain ⟨n, hn⟩ : ∃ n, l.length = n := ⟨_, rfl⟩
    have HM := hid (made0 w 35 6 (Nat.le_refl w.heap.size))
    have HL := hid (show (w.alloc (.cells #[] 35)).ownsRow 0 35 6 (.slice (some ad) n c) n (its l) from by rw [← hn]; exact h.on (ball _ _))
    have HN := hid hn
    rw [hn] at hl ⊢
    clear h hn
    have nq := nilI
    go_enter Tryz.func45, Tryz.ntmps45
    go_wp2_with (at_builtin; refine wpList_app_mine (by rfl) (.tmp 5) (.tmp 6) 71 35 _ 6 48 (by rfl) Tryz.underlying71 infoIt rfl (by decide) w.heap.size 0 _ 0 [] (by rfl) HM.out (some ad) c n (its l) (by rfl) HL.out (its_one l) (by unfold maxLen; omega) (by omega) (by simp) ?_; intro v' w' hown hgrow; obtain ⟨p1, q1, rfl⟩ := own_form hown; have HO1 := hid hown; have HG1 := hid hgrow; clear hown hgrow)
    go_ret
    have hO := HO1.out
    have hO2 : w'.ownsRow w.heap.size 35 6 (.slice p1 (0 + n) q1) (0 + n) (its l) := hO
    simp only [Nat.zero_add] at hO2 ⊢
    refine ⟨p1, q1, by simp, ?_, (ball _ _).grown HG1.out (by simp) (fun j hj => by cases hj; exact Nat.le_refl _), fun g hg => ?_⟩
    · unfold Li; rw [HN.out]; exact own_base hO2 (Nat.zero_le _)
    · subst hg
      obtain ⟨_, ⟨e1, _⟩ | ⟨g', c', cur, e1, r1, _⟩⟩ := hO2
      · cases (Value.slice.inj e1).1
      · have := (Value.slice.inj e1).1
        injection this with this
        injection this with this
        omega
end Go.Proofs.YtnmkfdndfhefiaaGreat
