/-
  The document's level of a price.
-/
import Derived.Test.YtojmcfkbekodpaaKn
namespace Go.Proofs.Ytojmcfkbekodpaa.Fd
open Go.RowKit Go.Deep
set_option linter.unusedVariables false
set_option linter.unusedSimpArgs false
set_option maxHeartbeats 4000000
set_option maxRecDepth 100000
def lv0 : Lv := ⟨0, 0, 0⟩
/-- the level of a price. -/
def atL : List Lv → Int → Lv
  | [], _ => lv0
  | y :: l, x => if y.pr = x then y else atL l x
theorem atL_at {l : List Lv} {x : Int} {i : Nat} (hi : i < l.length) (hx : l[i].pr = x) (hn : ∀ j (hj : j < l.length), j < i → l[j].pr ≠ x) : atL l x = l[i] := by
  induction l generalizing i with
  | nil => simp at hi
  | cons y l ih =>
    cases i with
    | zero => simp only [List.getElem_cons_zero] at hx ⊢; simp [atL, hx]
    | succ i =>
      have h0 := hn 0 (by simp) (by omega)
      simp only [List.getElem_cons_zero] at h0
      simp only [atL, if_neg h0, List.getElem_cons_succ] at hx ⊢
      exact ih (by simpa using hi) hx (fun j hj hji => hn (j + 1) (by simpa using hj) (by omega))
theorem atL_none {l : List Lv} {x : Int} (hn : ∀ j (hj : j < l.length), l[j].pr ≠ x) : atL l x = lv0 := by
  induction l with
  | nil => rfl
  | cons y l ih =>
    have h0 := hn 0 (by simp)
    simp only [List.getElem_cons_zero] at h0
    simp only [atL, if_neg h0]
    exact ih (fun j hj => hn (j + 1) (by simpa using hj))
theorem infoL : (Try.prog.info? 71).map (·.size) = some 3 := by kernel_rfl
/-- two lists are merged: what is behind is better than what is ahead. -/
structure Mg (s : Int) (a b : List Lv) (i k : Nat) : Prop where
  x : ∀ j (hj : j < b.length), j < k → ∀ i' (hi : i' < a.length), i ≤ i' → bt s b[j].pr a[i'].pr = true
  y : ∀ j (hj : j < a.length), j < i → ∀ k' (hk : k' < b.length), k ≤ k' → bt s a[j].pr b[k'].pr = true
theorem Mg.zero (s : Int) (a b : List Lv) : Mg s a b 0 0 := ⟨fun j _ h => by omega, fun j _ h => by omega⟩
theorem Mg.left {s : Int} {a b : List Lv} {i k : Nat} (h : Mg s a b i k) (ha : Lok s a) (hb : Lok s b) (hi : i < a.length) (hc : ∀ hk : k < b.length, bt s a[i].pr b[k].pr = true) : Mg s a b (i + 1) k := by
  refine ⟨fun j hj hjk i' hi' hii => h.x j hj hjk i' hi' (by omega), fun j hj hji k' hk' hkk => ?_⟩
  by_cases e : j = i
  · subst e
    have := hc (by omega)
    by_cases e2 : k' = k
    · subst e2; exact this
    · exact bt_trans this (hb.lt hk' (by omega))
  · exact h.y j hj (by omega) k' hk' hkk
theorem Mg.right {s : Int} {a b : List Lv} {i k : Nat} (h : Mg s a b i k) (ha : Lok s a) (hb : Lok s b) (hk : k < b.length) (hc : ∀ hi : i < a.length, bt s b[k].pr a[i].pr = true) : Mg s a b i (k + 1) := by
  refine ⟨fun j hj hjk i' hi' hii => ?_, fun j hj hji k' hk' hkk => h.y j hj hji k' hk' (by omega)⟩
  by_cases e : j = k
  · subst e
    have := hc (by omega)
    by_cases e2 : i' = i
    · subst e2; exact this
    · exact bt_trans this (ha.lt hi' (by omega))
  · exact h.x j hj (by omega) i' hi' hii
theorem Mg.both {s : Int} {a b : List Lv} {i k : Nat} (h : Mg s a b i k) (ha : Lok s a) (hb : Lok s b) (hi : i < a.length) (hk : k < b.length) (hc : a[i].pr = b[k].pr) : Mg s a b (i + 1) (k + 1) := by
  refine ⟨fun j hj hjk i' hi' hii => ?_, fun j hj hji k' hk' hkk => ?_⟩
  · by_cases e : j = k
    · subst e; rw [← hc]; exact ha.lt hi' (by omega)
    · exact h.x j hj (by omega) i' hi' (by omega)
  · by_cases e : j = i
    · subst e; rw [hc]; exact hb.lt hk' (by omega)
    · exact h.y j hj (by omega) k' hk' (by omega)
theorem Lok.self {s : Int} {a : List Lv} (ha : Lok s a) {i : Nat} (hi : i < a.length) : atL a a[i].pr = a[i] :=
  atL_at hi rfl (fun j hj hji => bt_ne (ha.lt hi hji))
theorem Lok.nz {s : Int} {a : List Lv} (ha : Lok s a) {i : Nat} (hi : i < a.length) : a[i] ≠ lv0 := by
  intro e
  have := (ha i hi).1
  rw [e] at this
  simp [lvG, lv0] at this
/-- the price of the first list alone. -/
theorem Mg.noneR {s : Int} {a b : List Lv} {i k : Nat} (h : Mg s a b i k) (hb : Lok s b) (hi : i < a.length) (hc : ∀ hk : k < b.length, bt s a[i].pr b[k].pr = true) : atL b a[i].pr = lv0 :=
  atL_none (fun j hj => by
    by_cases e : j < k
    · exact bt_ne (h.x j hj e i hi (Nat.le_refl _))
    · have := hc (by omega)
      by_cases e2 : j = k
      · subst e2; exact (bt_ne this).symm
      · exact (bt_ne (bt_trans this (hb.lt hj (by omega)))).symm)
theorem Mg.noneL {s : Int} {a b : List Lv} {i k : Nat} (h : Mg s a b i k) (ha : Lok s a) (hk : k < b.length) (hc : ∀ hi : i < a.length, bt s b[k].pr a[i].pr = true) : atL a b[k].pr = lv0 :=
  atL_none (fun j hj => by
    by_cases e : j < i
    · exact bt_ne (h.y j hj e k hk (Nat.le_refl _))
    · have := hc (by omega)
      by_cases e2 : j = i
      · subst e2; exact (bt_ne this).symm
      · exact (bt_ne (bt_trans this (ha.lt hj (by omega)))).symm)
theorem chg_left {s : Int} {a b : List Lv} {i k : Nat} (hi : i < a.length) (hc : ∀ hk : k < b.length, bt s a[i].pr b[k].pr = true) : chg s (a.drop i) (b.drop k) = gone s a[i] :: chg s (a.drop (i + 1)) (b.drop k) := by
  rw [List.drop_eq_getElem_cons hi]
  by_cases hk : k < b.length
  · rw [List.drop_eq_getElem_cons hk]; exact chg_lt (hc hk)
  · rw [show b.drop k = [] from List.drop_eq_nil_of_le (by omega)]; exact chg_cn s _ _
theorem chg_right {s : Int} {a b : List Lv} {i k : Nat} (hk : k < b.length) (hc : ∀ hi : i < a.length, bt s b[k].pr a[i].pr = true) : chg s (a.drop i) (b.drop k) = tld s b[k] :: chg s (a.drop i) (b.drop (k + 1)) := by
  rw [List.drop_eq_getElem_cons hk]
  by_cases hi : i < a.length
  · rw [List.drop_eq_getElem_cons hi]; exact chg_gt (hc hi)
  · rw [show a.drop i = [] from List.drop_eq_nil_of_le (by omega)]; exact chg_nc s _ _
theorem chg_bothN {s : Int} {a b : List Lv} {i k : Nat} (hi : i < a.length) (hk : k < b.length) (hp : a[i].pr = b[k].pr) (hn : a[i] ≠ b[k]) : chg s (a.drop i) (b.drop k) = tld s b[k] :: chg s (a.drop (i + 1)) (b.drop (k + 1)) := by
  rw [List.drop_eq_getElem_cons hk, List.drop_eq_getElem_cons hi]; exact chg_ne hp hn
theorem chg_bothE {s : Int} {a b : List Lv} {i k : Nat} (hi : i < a.length) (hk : k < b.length) (hn : a[i] = b[k]) : chg s (a.drop i) (b.drop k) = chg s (a.drop (i + 1)) (b.drop (k + 1)) := by
  rw [List.drop_eq_getElem_cons hk, List.drop_eq_getElem_cons hi, hn]; exact chg_eq
end Go.Proofs.Ytojmcfkbekodpaa.Fd
namespace Go.Proofs.Ytojmcfkbekodpaa.Fd
open Go.RowKit Go.Deep
set_option linter.unusedVariables false
set_option linter.unusedSimpArgs false
set_option maxHeartbeats 8000000
set_option maxRecDepth 100000
end Go.Proofs.Ytojmcfkbekodpaa.Fd
namespace Go.Proofs.Ytojmcfkbekodpaa.Fd
open Go.RowKit Go.Deep
set_option linter.unusedVariables false
set_option linter.unusedSimpArgs false
set_option maxHeartbeats 8000000
set_option maxRecDepth 100000
theorem res_ctt {P : Program} {fn : Func} {p q r : Tmp} {ty : TypeId} (h : fn.results = #[.cell p ty, .tmp q, .tmp r]) (tmps : Array Value) (w : World) (g : Nat) (t : TypeId) (cs : Array Value) (fr : Nat × Nat) (d : TypeDesc) (v u : Value)
    (hp : tmps.getD p undef = .pointer (some ⟨g, 0, none⟩)) (hq : tmps.getD q undef = v) (hr : tmps.getD r undef = u) (hg : w.heap[g]? = some (.cells cs t fr))
    (hu : P.underlying ty = some d) (hd : (match d with | .struct _ | .array _ _ => true | _ => false) = true) (hi : (P.info? ty).map (·.size) = some cs.size) :
    (results fn tmps).run P w = .ok (.tuple #[.agg cs, v, u]) w := by
  have hp' : tmps[p]?.getD undef = .pointer (some ⟨g, 0, none⟩) := by simpa using hp
  have hq' : tmps[q]?.getD undef = v := by simpa using hq
  have hr' : tmps[r]?.getD undef = u := by simpa using hr
  simp [results, h, hp', hq', hr', asAddr, run_loadVar_row w g t ty cs fr d hg hu hd hi]
/-- the document's publisher, a value. -/
structure Rp (w : World) (d : Nat) (sq : Int) (p1 : Option Addr) (c1 : Nat) (l1 : List Lv) (p2 : Option Addr) (c2 : Nat) (l2 : List Lv) : Prop where
  r1 : Rl w p1 c1 l1
  r2 : Rl w p2 c2 l2
  k1 : Lok 1 l1
  k2 : Lok 2 l2
  n1 : l1.length ≤ 64
  n2 : l2.length ≤ 64
  d1 : 1 ≤ d
  d2 : d ≤ 64
  sq : 0 ≤ sq ∧ sq < 18446744073709551616
/-- what stands at the head of the document's loop that numbers. -/
structure Nv (W : World) (sq : Int) (T : List Dm) (q : Option Addr) (dd : Nat) (q1 : Option Addr) (e1 : Nat) (f1 : List Lv) (q2 : Option Addr) (e2 : Nat) (f2 : List Lv) (i : Nat) (wr : World) : Prop where
  o : wr.ownsRow W.heap.size 47 6 (.slice q T.length dd) T.length (dvc (nmi sq T i))
  l1 : Lo W.heap.size wr q1 e1 f1
  l2 : Lo W.heap.size wr q2 e2 f2
  b : Below W.heap.size W wr
end Go.Proofs.Ytojmcfkbekodpaa.Fd
