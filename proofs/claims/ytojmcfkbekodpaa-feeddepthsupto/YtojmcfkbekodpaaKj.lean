/-
  What stands under the walk.
-/
import Derived.Test.YtojmcfkbekodpaaChecked
import Derived.WalkKit
import Derived.WalkLawsBesides
import Derived.RowKit3
import Derived.Deep.OwnRows
import Derived.BigQuiet
import Derived.Deep.QuietTactic
import Derived.Laws.Rows
import Derived.Laws.OwnMore
import Derived.Deep.RegionHeld3
import Derived.Deep.RegionWith
import Derived.Deep.AppendLies
import Derived.Shelf.Strconv.Itoa0
import Derived.RangeFuncRecord
import Derived.Deep.DrawnRows
import Derived.Deep.Cut
import Derived.Deep.CutBlock
import Derived.Deep.RegionLaw
import Derived.Laws.NewBlocks
import Derived.Laws.MakeOwn
import Derived.Laws.AppendOwnNone
import Derived.Lib.SliceRun
namespace Go.Proofs.Ytojmcfkbekodpaa.Fd
open Go.RowKit Go.Deep
set_option linter.unusedVariables false
set_option linter.unusedSimpArgs false
theorem hid {p : Prop} (h : p) : Hid p := h
theorem ball (w : World) (o : Obj) : Below w.heap.size w (w.alloc o) := (Below.refl _ _).alloc (Nat.le_refl _) _
theorem btr {a b c : World} (h : Below a.heap.size a b) (k : Below b.heap.size b c) : Below a.heap.size a c := h.trans (k.mono h.size)
theorem row_cell {w : World} {g : Nat} {t : TypeId} {cs : Array Value} (h : w.heap[g]? = some (.cells cs t (0, 0))) (j : Nat) : w.cell? ⟨g, j, none⟩ = cs[j]? := cell_of_row w g j cs t (0, 0) h
theorem row_frz {w : World} {g : Nat} {t : TypeId} {cs : Array Value} (h : w.heap[g]? = some (.cells cs t (0, 0))) (j : Nat) : w.frozen? ⟨g, j, none⟩ = false := frozen_of_row w g j cs t h
theorem row_lt {w : World} {g : Nat} {o : Obj} (h : w.heap[g]? = some o) : g < w.heap.size := (Array.getElem?_eq_some_iff.1 h).1
theorem row_on {w w' : World} {g : Nat} {o : Obj} (h : w.heap[g]? = some o) (hb : Below w.heap.size w w') : w'.heap[g]? = some o := by
  rw [hb.block g (row_lt h)]; exact h
theorem row_ne {w : World} {g k : Nat} {t u : TypeId} {c d : Array Value} (h : w.heap[g]? = some (.cells c t (0, 0))) (k' : w.heap[k]? = some (.cells d u (0, 0))) (ne : t ≠ u) : g ≠ k := by
  rintro rfl
  rw [h] at k'
  injection k' with k'
  injection k' with _ k'
  exact ne k'
theorem bdrew (w : World) (n : Nat) : Below w.heap.size w (w.drewN n) := ⟨rfl, rfl, rfl, Nat.le_refl _, fun _ _ => rfl⟩
theorem bdrew1 (w : World) : Below w.heap.size w w.drew := ⟨rfl, rfl, rfl, Nat.le_refl _, fun _ _ => rfl⟩
theorem bcell {W w1 : World} (hb : Below W.heap.size W w1) : (∀ b o, b < W.heap.size → w1.cell? ⟨b, o, none⟩ = W.cell? ⟨b, o, none⟩) ∧ (∀ b o, b < W.heap.size → w1.frozen? ⟨b, o, none⟩ = W.frozen? ⟨b, o, none⟩) :=
  ⟨fun b o h => hb.cell (p := ⟨b, o, none⟩) h, fun b o h => hb.frozen (p := ⟨b, o, none⟩) h⟩
/-- all blocks but some are as they were. -/
structure Kp (B : Nat → Prop) (w w' : World) : Prop where
  os : w'.os = w.os
  tape : w'.tape = w.tape
  output : w'.output = w.output
  size : w.heap.size ≤ w'.heap.size
  obj : ∀ b, b < w.heap.size → ¬ B b → w'.heap[b]? = w.heap[b]?
theorem Kp.refl (B : Nat → Prop) (w : World) : Kp B w w := ⟨rfl, rfl, rfl, Nat.le_refl _, fun _ _ _ => rfl⟩
theorem Kp.trans {B C : Nat → Prop} {a b c : World} (h : Kp B a b) (k : Kp C b c) (hC : ∀ g, g < a.heap.size → C g → B g) : Kp B a c :=
  ⟨k.os.trans h.os, k.tape.trans h.tape, k.output.trans h.output, Nat.le_trans h.size k.size, fun g hg hB => (k.obj g (Nat.lt_of_lt_of_le hg h.size) (fun hc => hB (hC g hg hc))).trans (h.obj g hg hB)⟩
theorem Kp.mono {B C : Nat → Prop} {a b : World} (h : Kp B a b) (hm : ∀ g, g < a.heap.size → B g → C g) : Kp C a b :=
  ⟨h.os, h.tape, h.output, h.size, fun g hg hC => h.obj g hg (fun hB => hC (hm g hg hB))⟩
theorem Kp.row {B : Nat → Prop} {w w' : World} (h : Kp B w w') {g : Nat} {o : Obj} (e : w.heap[g]? = some o) (hB : ¬ B g) : w'.heap[g]? = some o := (h.obj g (row_lt e) hB).trans e
theorem Kp.below {B : Nat → Prop} {w w' : World} (h : Kp B w w') {n : Nat} (hn : n ≤ w.heap.size) (hB : ∀ g, g < n → ¬ B g) : Below n w w' :=
  ⟨h.os, h.tape, h.output, h.size, fun g hg => h.obj g (Nat.lt_of_lt_of_le hg hn) (hB g hg)⟩
theorem Kp.of {w w' : World} (B : Nat → Prop) (h : Below w.heap.size w w') : Kp B w w' := ⟨h.os, h.tape, h.output, h.size, fun g hg _ => h.block g hg⟩
theorem Kp.set (w : World) (N i : Nat) (v : Value) : Kp (fun b => b = N) w (w.setCell ⟨N, i, none⟩ v) :=
  ⟨rfl, rfl, rfl, by simp [World.setCell], fun b _ hN => heap_setCell_other _ _ _ _ (by show b ≠ N; exact hN)⟩

theorem own_same {base : Nat} {w w' : World} {e : TypeId} {size n : Nat} {v : Value} {xs : List Value} (h : w.ownsRow base e size v n xs) (hs : ∀ g, v.ownBlock = some g → w'.heap[g]? = w.heap[g]?) : w'.ownsRow base e size v n xs := by
  obtain ⟨h1, h2 | ⟨g, c, cur, rfl, r1, r2, r⟩⟩ := h
  · exact ⟨h1, .inl h2⟩
  · exact ⟨h1, .inr ⟨g, c, cur, rfl, r1, (hs g rfl).trans r2, r⟩⟩
theorem own_ty {base : Nat} {w : World} {e : TypeId} {size n : Nat} {v : Value} {xs : List Value} (h : w.ownsRow base e size v n xs) {g : Nat} (hg : v.ownBlock = some g) : ∃ cur, w.heap[g]? = some (.cells cur e (0, 0)) := by
  obtain ⟨h1, ⟨rfl, _⟩ | ⟨g', c, cur, rfl, r1, r2, r⟩⟩ := h
  · cases hg
  · cases hg; exact ⟨cur, r2⟩
theorem own_on {base : Nat} {w w' : World} {e : TypeId} {size n : Nat} {v : Value} {xs : List Value} (h : w.ownsRow base e size v n xs) (hb : Below w.heap.size w w') : w'.ownsRow base e size v n xs :=
  own_same h (fun g hg => by obtain ⟨c, e⟩ := own_ty h hg; exact hb.block g (row_lt e))
theorem own_base {base base' : Nat} {w : World} {e : TypeId} {size n : Nat} {v : Value} {xs : List Value} (h : w.ownsRow base e size v n xs) (hb : base' ≤ base) : w.ownsRow base' e size v n xs := by
  obtain ⟨h1, h2 | ⟨g, c, cur, h2, r1, r⟩⟩ := h
  · exact ⟨h1, .inl h2⟩
  · exact ⟨h1, .inr ⟨g, c, cur, h2, Nat.le_trans hb r1, r⟩⟩

/-- a slice begins a block. -/
def OfP (p : Option Addr) (b : Nat) : Prop := p = some ⟨b, 0, none⟩
theorem OfP.mk (g : Nat) : OfP (some ⟨g, 0, none⟩) g := rfl
theorem OfP.eq {g b : Nat} (h : OfP (some ⟨g, 0, none⟩) b) : b = g := by injection h with h; injection h with h; exact h.symm
theorem on_b {P : Program} {f : Nat} {args : Array Value} {w U : World} {v : Value} (h : Calls P f args U fun e w' => e = .returned v ∧ Below U.heap.size U w') (hU : Below w.heap.size w U) : Calls P f args U fun e w' => e = .returned v ∧ Hid (Below w.heap.size w w') :=
  h.mono (fun _ _ h => ⟨h.1, hid (btr hU h.2)⟩)
end Go.Proofs.Ytojmcfkbekodpaa.Fd
namespace Go.Proofs.Ytojmcfkbekodpaa.Fd
open Go.RowKit Go.Deep
set_option linter.unusedVariables false
set_option linter.unusedSimpArgs false
/-- a level. -/
structure Lv where
  pr : Int
  qt : Int
  ct : Int
deriving DecidableEq
/-- a message. -/
structure Dm where
  sq : Int
  kd : Int
  sd : Int
  pr : Int
  qt : Int
  ct : Int
deriving DecidableEq
def tk (p : Int) : Bool := decide (0 ≤ p ∧ p < 262144)
/-- a price of a side is better than another one. -/
def bt (s a b : Int) : Bool := if s = 1 then decide (b < a) else decide (a < b)
theorem bt_one {a b : Int} : bt 1 a b = decide (b < a) := rfl
theorem bt_not {s a b : Int} (h : s ≠ 1) : bt s a b = decide (a < b) := by simp [bt, h]
theorem bt_trans {s a b c : Int} (h : bt s a b = true) (k : bt s b c = true) : bt s a c = true := by
  unfold bt at *
  split at h <;> simp_all <;> omega
theorem bt_asym {s a b : Int} (h : bt s a b = true) : bt s b a = false := by
  unfold bt at *
  split at h <;> simp_all <;> omega
theorem bt_irr (s a : Int) : bt s a a = false := by unfold bt; split <;> simp
theorem bt_ne {s a b : Int} (h : bt s a b = true) : a ≠ b := by rintro rfl; rw [bt_irr] at h; cases h
theorem bt_tri {s a b : Int} (h : bt s a b = false) (k : bt s b a = false) : a = b := by
  unfold bt at *
  split at h <;> simp_all <;> omega
/-- a level can be. -/
def lvG (l : Lv) : Bool := decide (0 ≤ l.pr ∧ l.pr < 262144 ∧ 1 ≤ l.qt ∧ 1 ≤ l.ct)
def OkAt (s : Int) (l : List Lv) (i : Nat) (h : i < l.length) : Prop := lvG l[i] = true ∧ ∀ h0 : 0 < i, bt s l[i - 1].pr l[i].pr = true
def Lok (s : Int) (l : List Lv) : Prop := ∀ i (h : i < l.length), OkAt s l i h
/-- the levels of a side can be. -/
def lok (s : Int) : List Lv → Bool
  | [] => true
  | [x] => lvG x
  | x :: y :: t => lvG x && bt s x.pr y.pr && lok s (y :: t)
theorem lok_iff (s : Int) (l : List Lv) : lok s l = true ↔ Lok s l := by
  induction l with
  | nil => exact ⟨fun _ i h => by simp at h, fun _ => rfl⟩
  | cons x t ih =>
    cases t with
    | nil =>
      simp only [lok]
      constructor
      · intro h i hi
        obtain rfl : i = 0 := by simpa using hi
        exact ⟨h, fun h0 => absurd h0 (by omega)⟩
      · intro h; exact (h 0 (by simp)).1
    | cons y t =>
      simp only [lok, Bool.and_eq_true, ih]
      constructor
      · rintro ⟨⟨h1, h2⟩, h3⟩ i hi
        cases i with
        | zero => exact ⟨h1, fun h0 => absurd h0 (by omega)⟩
        | succ i =>
          have := h3 i (by simpa using hi)
          refine ⟨by simpa using this.1, fun _ => ?_⟩
          cases i with
          | zero => simpa using h2
          | succ i => simpa using this.2 (by omega)
      · intro h
        refine ⟨⟨(h 0 (by simp)).1, (h 1 (by simp)).2 (by omega)⟩, fun i hi => ?_⟩
        have := h (i + 1) (by simpa using hi)
        refine ⟨by simpa using this.1, fun h0 => ?_⟩
        have h2 := this.2 (by omega)
        cases i with
        | zero => omega
        | succ i => simpa using h2
theorem lok_not {s : Int} {l : List Lv} {i : Nat} (h : i < l.length) (k : ¬ OkAt s l i h) : lok s l = false := by
  cases e : lok s l with
  | false => rfl
  | true => exact absurd ((lok_iff s l).1 e i h) k
theorem Lok.lt {s : Int} {l : List Lv} (h : Lok s l) {i j : Nat} (hj : j < l.length) (hij : i < j) : bt s (l[i]'(by omega)).pr l[j].pr = true := by
  induction j with
  | zero => omega
  | succ j ih =>
    have h1 := (h (j + 1) hj).2 (by omega)
    simp only [Nat.add_sub_cancel] at h1
    by_cases e : i = j
    · subst e; exact h1
    · exact bt_trans (ih (by omega) (by omega)) h1
theorem Lok.take {s : Int} {l : List Lv} (h : Lok s l) (n : Nat) : Lok s (l.take n) := by
  intro i hi
  have hi' : i < l.length := by simp at hi; omega
  refine ⟨by simpa using (h i hi').1, fun h0 => by simpa using (h i hi').2 h0⟩
theorem Lok.nil (s : Int) : Lok s [] := fun i h => by simp at h
theorem Lok.tail {s : Int} {x : Lv} {l : List Lv} (h : Lok s (x :: l)) : Lok s l := by
  intro i hi
  have := h (i + 1) (by simpa using hi)
  refine ⟨by simpa using this.1, fun h0 => ?_⟩
  have h2 := this.2 (by omega)
  cases i with
  | zero => omega
  | succ i => simpa using h2
/-- there are at most so many ticks. -/
theorem Lok.len {s : Int} {l : List Lv} (h : Lok s l) : l.length ≤ 262144 := by
  have key : ∀ n, n < l.length → ∀ hn : n < l.length, (s = 1 → l[n].pr + n < 262144) ∧ (s ≠ 1 → (n : Int) ≤ l[n].pr) := by
    intro n
    induction n with
    | zero =>
      intro _ hn
      have := (h 0 hn).1
      simp only [lvG, decide_eq_true_eq] at this
      exact ⟨fun _ => by omega, fun _ => by omega⟩
    | succ n ih =>
      intro _ hn
      obtain ⟨i1, i2⟩ := ih (by omega) (by omega)
      have h2 := (h (n + 1) hn).2 (by omega)
      simp only [Nat.add_sub_cancel] at h2
      refine ⟨fun hs => ?_, fun hs => ?_⟩
      · subst hs; have := i1 rfl; simp only [bt_one, decide_eq_true_eq] at h2; omega
      · have := i2 hs; rw [bt_not hs] at h2; simp only [decide_eq_true_eq] at h2; omega
  by_cases hc : l.length ≤ 262144
  · exact hc
  · have hn : 262144 < l.length := by omega
    obtain ⟨k1, k2⟩ := key 262144 hn hn
    have g := (h 262144 hn).1
    simp only [lvG, decide_eq_true_eq] at g
    by_cases hs : s = 1
    · have := k1 hs; omega
    · have := k2 hs; omega
def gone (s : Int) (b : Lv) : Dm := ⟨0, 1, s, b.pr, 0, 0⟩
def tld (s : Int) (n : Lv) : Dm := ⟨0, 1, s, n.pr, n.qt, n.ct⟩
/-- the messages by which levels come to be others. -/
def chg (s : Int) (a b : List Lv) : List Dm :=
  match a, b with
  | [], [] => []
  | x :: a, [] => gone s x :: chg s a []
  | [], y :: b => tld s y :: chg s [] b
  | x :: a, y :: b => if bt s x.pr y.pr = true then gone s x :: chg s a (y :: b) else if bt s y.pr x.pr = true then tld s y :: chg s (x :: a) b else if x = y then chg s a b else tld s y :: chg s a b
termination_by a.length + b.length
theorem chg_nn (s : Int) : chg s [] [] = [] := by rw [chg]
theorem chg_cn (s : Int) (x : Lv) (a : List Lv) : chg s (x :: a) [] = gone s x :: chg s a [] := by rw [chg]
theorem chg_nc (s : Int) (y : Lv) (b : List Lv) : chg s [] (y :: b) = tld s y :: chg s [] b := by rw [chg]
theorem chg_lt {s : Int} {x y : Lv} {a b : List Lv} (h : bt s x.pr y.pr = true) : chg s (x :: a) (y :: b) = gone s x :: chg s a (y :: b) := by rw [chg, if_pos h]
theorem chg_gt {s : Int} {x y : Lv} {a b : List Lv} (h : bt s y.pr x.pr = true) : chg s (x :: a) (y :: b) = tld s y :: chg s (x :: a) b := by rw [chg, if_neg (by rw [bt_asym h]; decide), if_pos h]
theorem chg_eq {s : Int} {x : Lv} {a b : List Lv} : chg s (x :: a) (x :: b) = chg s a b := by rw [chg, if_neg (by rw [bt_irr]; decide), if_neg (by rw [bt_irr]; decide), if_pos rfl]
theorem chg_ne {s : Int} {x y : Lv} {a b : List Lv} (h : x.pr = y.pr) (k : x ≠ y) : chg s (x :: a) (y :: b) = tld s y :: chg s a b := by rw [chg, if_neg (by rw [h, bt_irr]; decide), if_neg (by rw [h, bt_irr]; decide), if_neg k]
theorem chg_len (s : Int) (a b : List Lv) : (chg s a b).length ≤ a.length + b.length := by
  induction hn : a.length + b.length using Nat.strongRecOn generalizing a b with
  | ind n ih =>
    subst hn
    match a, b with
    | [], [] => rw [chg_nn]; simp
    | x :: a, [] => have := ih _ (by simp) a [] rfl; rw [chg_cn]; simp at this ⊢; omega
    | [], y :: b => have := ih _ (by simp) [] b rfl; rw [chg_nc]; simp at this ⊢; omega
    | x :: a, y :: b =>
      have h1 := ih _ (by simp) a (y :: b) rfl
      have h2 := ih _ (by simp) (x :: a) b rfl
      have h3 := ih _ (by simp; omega) a b rfl
      rw [chg]
      simp only [List.length_cons] at h1 h2 h3 ⊢
      split
      · simp only [List.length_cons]; omega
      · split
        · simp only [List.length_cons]; omega
        · split
          · omega
          · simp only [List.length_cons]; omega
def uw (x : Int) : Int := IntKind.u64.wrap x
theorem uw_eq (x : Int) : uw x = x % 18446744073709551616 := by unfold uw; rw [IntKind.wrap_u64]
/-- messages with their numbers. -/
def nmb (s : Int) (l : List Dm) : List Dm := l.mapIdx fun i d => { d with sq := uw (s + i + 1) }
theorem nmb_len (s : Int) (l : List Dm) : (nmb s l).length = l.length := by simp [nmb]
theorem nmb_get (s : Int) (l : List Dm) (i : Nat) (h : i < l.length) : (nmb s l)[i]'(by simpa [nmb] using h) = { l[i] with sq := uw (s + i + 1) } := by simp [nmb]
end Go.Proofs.Ytojmcfkbekodpaa.Fd
