/-
  FgL
-/
import Derived.Test.YtojmcfkbekodpaaGq
import Derived.Test.YtojmcfkbekodpaaGp
import Derived.Test.YtojmcfkbekodpaaGr
import Derived.Test.YtojmcfkbekodpaaGk
import Derived.Deep.MidRow
namespace Go.Proofs.Ytojmcfkbekodpaa.Fd
open Go.RowKit Go.Deep
/-- the document's way: level by level. -/
def dnl (s : Int) (v : Lv) : Bool → List Lv → List Lv
  | put, [] => if put then [] else [v]
  | put, y :: l => (if !put && !bt s y.pr v.pr then [v] else []) ++ ((if y.pr = v.pr then [] else [y]) ++ dnl s v (put || !bt s y.pr v.pr) l)
theorem dnl_lo {s : Int} {v : Lv} {a r : List Lv} (put : Bool) (h : ∀ y ∈ a, bt s y.pr v.pr = true) : dnl s v put (a ++ r) = a ++ dnl s v put r := by
  induction a with
  | nil => rfl
  | cons y a ih =>
    have hy := h y (by simp)
    have hn : y.pr ≠ v.pr := bt_ne hy
    simp only [List.cons_append, dnl, hy, if_neg hn]
    simp [ih (fun z hz => h z (by simp [hz]))]
theorem dnl_put {s : Int} {v : Lv} {r : List Lv} (h : ∀ y ∈ r, y.pr ≠ v.pr) : dnl s v true r = r := by
  induction r with
  | nil => rfl
  | cons y r ih =>
    simp only [dnl, if_neg (h y (by simp))]
    simp [ih (fun z hz => h z (by simp [hz]))]
theorem dnl_plc {s : Int} {l : List Lv} {v : Lv} {i : Nat} {b : Bool} (h : Plc s l v.pr i b) (hl : Lok s l) (put : Bool) : dnl s v put l = l.take i ++ ((if put then [] else [v]) ++ l.drop (if b then i + 1 else i)) := by
  have e : dnl s v put l = l.take i ++ dnl s v put (l.drop i) := by
    conv => lhs; rw [← List.take_append_drop i l]
    refine dnl_lo put (fun y hy => ?_)
    obtain ⟨k, hk, rfl⟩ := List.getElem_of_mem hy
    rw [List.getElem_take]
    rw [List.length_take] at hk
    exact h.lo k (by omega) (by omega)
  rw [e]
  congr 1
  by_cases hi : i < l.length
  · have hy := h.hi i hi (Nat.le_refl _)
    have hr : ∀ y ∈ l.drop (i + 1), y.pr ≠ v.pr := fun y hy' => by
      obtain ⟨k, hk, rfl⟩ := List.getElem_of_mem hy'
      rw [List.getElem_drop]
      rw [List.length_drop] at hk
      have h1 := hl.lt (i := i) (j := i + 1 + k) (by omega) (by omega)
      intro e
      rw [e, hy] at h1
      cases h1
    rw [List.drop_eq_getElem_cons hi]
    simp only [dnl, hy]
    have hp : (put || !false) = true := by simp
    rw [hp, dnl_put hr]
    cases hb : b with
    | true =>
      obtain ⟨_, hx⟩ := h.b.1 hb
      cases put <;> simp [hx]
    | false =>
      have hx : l[i].pr ≠ v.pr := fun hx => by
        have := h.b.2 ⟨hi, hx⟩
        rw [hb] at this
        cases this
      cases put <;> simp [hx]
  · have hb : b = false := by
      cases hb : b with
      | false => rfl
      | true => exact absurd (h.b.1 hb).1 hi
    have hd : l.drop i = [] := List.drop_eq_nil_of_le (by omega)
    rw [hb]
    simp only [hd]
    cases put <;> simp [dnl, hd]
/-- a level that is gone, told of or new: the list by its place. -/
theorem dnl_gone_in {s : Int} {l : List Lv} {v : Lv} {i : Nat} (h : Plc s l v.pr i true) (hl : Lok s l) : dnl s v true l = l.eraseIdx i := by
  rw [dnl_plc h hl, List.eraseIdx_eq_take_drop_succ]
  simp
theorem dnl_gone_out {s : Int} {l : List Lv} {v : Lv} {i : Nat} (h : Plc s l v.pr i false) (hl : Lok s l) : dnl s v true l = l := by
  rw [dnl_plc h hl]
  simp
theorem dnl_set {s : Int} {l : List Lv} {v : Lv} {i : Nat} (h : Plc s l v.pr i true) (hl : Lok s l) : dnl s v false l = l.set i v := by
  obtain ⟨hi, _⟩ := h.b.1 rfl
  rw [dnl_plc h hl, List.set_eq_take_append_cons_drop, if_pos hi]
  simp
theorem dnl_new {s : Int} {l : List Lv} {v : Lv} {i : Nat} (h : Plc s l v.pr i false) (hl : Lok s l) : dnl s v false l = l.take i ++ v :: l.drop i := by
  rw [dnl_plc h hl]
  simp
end Go.Proofs.Ytojmcfkbekodpaa.Fd
namespace Go.Proofs.Ytojmcfkbekodpaa.Fd
open Go.RowKit Go.Deep
set_option linter.unusedVariables false
set_option linter.unusedSimpArgs false
set_option maxHeartbeats 8000000
set_option maxRecDepth 100000
def lvD (d : Dm) : Lv := ⟨d.pr, d.qt, d.ct⟩
theorem dnl_cons_t {s : Int} {v y : Lv} {l : List Lv} : dnl s v true (y :: l) = (if y.pr = v.pr then [] else [y]) ++ dnl s v true l := by simp [dnl]
theorem dnl_cons_lo {s : Int} {v y : Lv} {l : List Lv} (h : bt s y.pr v.pr = true) : dnl s v false (y :: l) = [y] ++ dnl s v false l := by
  have := bt_ne h
  simp [dnl, h, this]
theorem dnl_cons_in {s : Int} {v y : Lv} {l : List Lv} (h : bt s y.pr v.pr = false) : dnl s v false (y :: l) = [v] ++ ((if y.pr = v.pr then [] else [y]) ++ dnl s v true l) := by
  simp [dnl, h]
end Go.Proofs.Ytojmcfkbekodpaa.Fd
namespace Go.Proofs.Ytojmcfkbekodpaa.Fd
open Go.RowKit Go.Deep
set_option linter.unusedVariables false
set_option linter.unusedSimpArgs false
set_option maxHeartbeats 8000000
set_option maxRecDepth 100000
/-- a side's levels behind a message. -/
def dnS (s : Int) (d : Dm) (l : List Lv) : List Lv := if d.kd = 1 ∧ d.sd = s then dnl s (lvD d) (d.ct == 0) l else l
end Go.Proofs.Ytojmcfkbekodpaa.Fd
namespace Go.Proofs.Ytojmcfkbekodpaa.Fd
open Go.RowKit Go.Deep
set_option linter.unusedVariables false
set_option linter.unusedSimpArgs false
set_option maxHeartbeats 8000000
set_option maxRecDepth 100000
theorem row_there {w : World} {g : Nat} {t : TypeId} {cs : Array Value} (h : w.heap[g]? = some (.cells cs t (0, 0))) (o n : Nat) (hn : o + n ≤ cs.size) : w.there g o n := fun j hj => ⟨by rw [row_cell h, Array.getElem?_eq_getElem (by omega)]; rfl, row_frz h _⟩
end Go.Proofs.Ytojmcfkbekodpaa.Fd
namespace Go.Proofs.Ytojmcfkbekodpaa.Fd
open Go.RowKit Go.Deep
set_option linter.unusedVariables false
set_option linter.unusedSimpArgs false
theorem dnl_mem {s : Int} {v z : Lv} {put : Bool} {l : List Lv} (h : z ∈ dnl s v put l) : (z = v ∧ put = false) ∨ z ∈ l := by
  induction l generalizing put with
  | nil => cases put <;> simp [dnl] at h; exact .inl ⟨h, rfl⟩
  | cons y l ih =>
    simp only [dnl, List.mem_append] at h
    rcases h with h | h | h
    · split at h
      · rename_i hc
        simp only [List.mem_singleton] at h
        refine .inl ⟨h, ?_⟩
        cases put <;> simp_all
      · simp at h
    · split at h
      · simp at h
      · simp only [List.mem_singleton] at h
        exact .inr (by simp [h])
    · rcases ih h with h | h
      · refine .inl ⟨h.1, ?_⟩
        cases put <;> simp_all
      · exact .inr (by simp [h])
theorem dnl_true {s : Int} {v : Lv} {l : List Lv} : dnl s v true l = l.filter (fun y => y.pr != v.pr) := by
  induction l with
  | nil => rfl
  | cons y l ih =>
    rw [dnl_cons_t, ih, List.filter_cons]
    by_cases e : y.pr = v.pr
    · simp [e]
    · simp [e]
theorem Lok_iff {s : Int} {l : List Lv} : Lok s l ↔ (∀ x ∈ l, lvG x = true) ∧ l.Pairwise (fun x y => bt s x.pr y.pr = true) := by
  constructor
  · intro h
    refine ⟨fun x hx => ?_, List.pairwise_iff_getElem.2 (fun i j hi hj hij => h.lt hj hij)⟩
    obtain ⟨i, hi, rfl⟩ := List.getElem_of_mem hx
    exact (h i hi).1
  · rintro ⟨h1, h2⟩ i hi
    exact ⟨h1 _ (List.getElem_mem hi), fun h0 => List.pairwise_iff_getElem.1 h2 (i - 1) i (by omega) hi (by omega)⟩
theorem dnl_pair {s : Int} {v : Lv} {put : Bool} {l : List Lv} (h : l.Pairwise (fun x y => bt s x.pr y.pr = true)) : (dnl s v put l).Pairwise (fun x y => bt s x.pr y.pr = true) := by
  cases put with
  | true => rw [dnl_true]; exact h.filter _
  | false =>
    induction l with
    | nil => simp [dnl]
    | cons y l ih =>
      rw [List.pairwise_cons] at h
      cases hb : bt s y.pr v.pr with
      | true =>
        rw [dnl_cons_lo hb, List.singleton_append, List.pairwise_cons]
        refine ⟨fun z hz => ?_, ih h.2⟩
        rcases dnl_mem hz with ⟨rfl, _⟩ | hz
        · exact hb
        · exact h.1 z hz
      | false =>
        rw [dnl_cons_in hb, dnl_true]
        by_cases e : y.pr = v.pr
        · rw [if_pos e, List.nil_append, List.singleton_append, List.pairwise_cons]
          refine ⟨fun z hz => ?_, h.2.filter _⟩
          rw [← e]
          exact h.1 z (List.mem_filter.1 hz).1
        · have hv : bt s v.pr y.pr = true := by
            cases hq : bt s v.pr y.pr with
            | true => rfl
            | false => exact absurd (bt_tri hb hq) e
          rw [if_neg e, List.singleton_append, List.singleton_append, List.pairwise_cons, List.pairwise_cons]
          refine ⟨fun z hz => ?_, fun z hz => h.1 z (List.mem_filter.1 hz).1, h.2.filter _⟩
          rcases List.mem_cons.1 hz with rfl | hz
          · exact hv
          · exact bt_trans hv (h.1 z (List.mem_filter.1 hz).1)
theorem Lok.dnl {s : Int} {v : Lv} {put : Bool} {l : List Lv} (h : Lok s l) (hv : put = false → lvG v = true) : Lok s (dnl s v put l) := by
  rw [Lok_iff] at h ⊢
  refine ⟨fun x hx => ?_, dnl_pair h.2⟩
  rcases dnl_mem hx with ⟨rfl, e⟩ | hx
  · exact hv e
  · exact h.1 x hx
theorem Lok.dnS {s : Int} {d : Dm} {l : List Lv} (h : Lok s l) (hd : dOk d = true) : Lok s (dnS s d l) := by
  unfold Go.Proofs.Ytojmcfkbekodpaa.Fd.dnS
  split
  · rename_i hc
    refine h.dnl (fun hp => ?_)
    have := (dOk_iff d).1 hd
    have hct : d.ct ≠ 0 := by simpa using hp
    have := hc.1
    unfold lvG lvD
    simp only [decide_eq_true_eq]
    omega
  · exact h
/-- what a subscriber shows and holds. -/
structure Ss where
  sq : Int
  gr : Int
  l1 : List Lv
  l2 : List Lv
  L : List Dm
  la : Dm
/-- a message is done. -/
def doS (s : Ss) (d : Dm) : Ss := ⟨d.sq, s.gr, dnS 1 d s.l1, dnS 2 d s.l2, s.L, if d.kd = 2 then d else s.la⟩
/-- without a number. -/
def wo (L : List Dm) (k : Int) : List Dm := L.filter (fun d => d.sq != k)
def hasN (L : List Dm) (k : Int) : Bool := L.any (fun d => d.sq == k)
theorem wo_lt {L : List Dm} {k : Int} (h : hasN L k = true) : (wo L k).length < L.length := by
  unfold wo
  rw [List.length_filter_lt_length_iff_exists]
  unfold hasN at h
  rw [List.any_eq_true] at h
  obtain ⟨x, h1, h2⟩ := h
  exact ⟨x, h1, by simpa using h2⟩
/-- the next one that is held is done. -/
def nxS (s : Ss) : Ss := doS ⟨s.sq, s.gr, s.l1, s.l2, wo s.L (uw (s.sq + 1)), s.la⟩ (fnd s.L (uw (s.sq + 1)))
/-- all that is held is done, as far as no number is missing. -/
def goS (s : Ss) : Ss := if h : hasN s.L (uw (s.sq + 1)) = true then goS (nxS s) else s
termination_by s.L.length
decreasing_by exact wo_lt h
theorem goS_yes {s : Ss} (h : hasN s.L (uw (s.sq + 1)) = true) : goS s = goS (nxS s) := by rw [goS, dif_pos h]
theorem goS_no {s : Ss} (h : hasN s.L (uw (s.sq + 1)) = false) : goS s = s := by rw [goS, dif_neg (by simp [h])]
/-- such a state can be. -/
structure Sg (hold : Nat) (s : Ss) : Prop where
  sq : 0 ≤ s.sq ∧ s.sq < 18446744073709551616
  gr : 0 ≤ s.gr ∧ s.gr < 18446744073709551616
  k1 : Lok 1 s.l1
  k2 : Lok 2 s.l2
  hl : ∀ d ∈ s.L, dOk d = true ∧ 0 ≤ d.sq ∧ d.sq < 18446744073709551616 ∧ d.sq ≤ s.gr
  nd : s.L.Pairwise (fun x y => x.sq ≠ y.sq)
  len : s.L.length ≤ hold
  la : s.la = dm0 ∨ (s.la.kd = 2 ∧ 1 ≤ s.la.sq)
theorem Sg.doS {hold : Nat} {s : Ss} (h : Sg hold s) {d : Dm} (hd : dOk d = true) (hr : 0 ≤ d.sq ∧ d.sq < 18446744073709551616) : Sg hold (doS s d) := by
  have := (dOk_iff d).1 hd
  refine ⟨hr, h.gr, h.k1.dnS hd, h.k2.dnS hd, h.hl, h.nd, h.len, ?_⟩
  show (if d.kd = 2 then d else s.la) = dm0 ∨ _
  unfold Go.Proofs.Ytojmcfkbekodpaa.Fd.doS
  split
  · rename_i e; exact .inr ⟨e, this.1⟩
  · exact h.la
theorem Sg.wo {hold : Nat} {s : Ss} (h : Sg hold s) (k : Int) : Sg hold ⟨s.sq, s.gr, s.l1, s.l2, wo s.L k, s.la⟩ :=
  ⟨h.sq, h.gr, h.k1, h.k2, fun d hd => h.hl d (List.mem_filter.1 hd).1, h.nd.filter _, Nat.le_trans (List.length_filter_le _ _) h.len, h.la⟩
theorem Sg.fnd {hold : Nat} {s : Ss} (h : Sg hold s) {k : Int} (hk : hasN s.L k = true) : dOk (fnd s.L k) = true ∧ (0 ≤ (fnd s.L k).sq ∧ (fnd s.L k).sq < 18446744073709551616) ∧ (fnd s.L k).sq = k ∧ fnd s.L k ∈ s.L := by
  obtain ⟨a, b⟩ := fnd_mem hk
  have c := h.hl _ a
  exact ⟨c.1, ⟨c.2.1, c.2.2.1⟩, b, a⟩
theorem Sg.nxS {hold : Nat} {s : Ss} (h : Sg hold s) (hk : hasN s.L (uw (s.sq + 1)) = true) : Sg hold (nxS s) := by
  obtain ⟨a, b, _⟩ := h.fnd hk
  exact (h.wo _).doS a b
theorem Sg.goS {hold : Nat} {s : Ss} (h : Sg hold s) : Sg hold (goS s) := by
  induction hn : s.L.length using Nat.strongRecOn generalizing s with
  | ind n ih =>
    subst hn
    cases hc : hasN s.L (uw (s.sq + 1)) with
    | false => rw [goS_no hc]; exact h
    | true => rw [goS_yes hc]; exact ih _ (wo_lt hc) (h.nxS hc) rfl
/-- Take. -/
def tkS (hold : Nat) (s : Ss) (d : Dm) : Ss :=
  if dOk d = false then s else if d.sq ≤ s.sq ∨ hasN s.L d.sq = true then s
  else if d.sq = s.sq + 1 then goS (doS ⟨s.sq, max s.gr d.sq, s.l1, s.l2, s.L, s.la⟩ d)
  else ⟨s.sq, max s.gr d.sq, s.l1, s.l2, if s.L.length < hold then s.L ++ [d] else s.L, s.la⟩
def tkE (s : Ss) (d : Dm) : Int := if dOk d = false then 1 else if d.sq ≤ s.sq ∨ hasN s.L d.sq = true then 180 else if d.sq = s.sq + 1 then 0 else 181
theorem Sg.up {hold : Nat} {s : Ss} (h : Sg hold s) {d : Dm} (hr : 0 ≤ d.sq ∧ d.sq < 18446744073709551616) : Sg hold ⟨s.sq, max s.gr d.sq, s.l1, s.l2, s.L, s.la⟩ :=
  ⟨h.sq, by have := h.gr; show 0 ≤ max s.gr d.sq ∧ max s.gr d.sq < _; omega, h.k1, h.k2, fun x hx => by have := h.hl x hx; exact ⟨this.1, this.2.1, this.2.2.1, by show x.sq ≤ max s.gr d.sq; omega⟩, h.nd, h.len, h.la⟩
theorem Sg.held {hold : Nat} {s : Ss} (h : Sg hold s) {d : Dm} (hd : dOk d = true) (hr : 0 ≤ d.sq ∧ d.sq < 18446744073709551616) (hx : hasN s.L d.sq = false) (hl : s.L.length < hold) : Sg hold ⟨s.sq, max s.gr d.sq, s.l1, s.l2, s.L ++ [d], s.la⟩ := by
  have u := h.up hr
  refine ⟨u.sq, u.gr, u.k1, u.k2, fun x hx => ?_, ?_, by simp; omega, u.la⟩
  · rcases List.mem_append.1 hx with hx | hx
    · exact u.hl x hx
    · simp only [List.mem_singleton] at hx
      subst hx
      exact ⟨hd, hr.1, hr.2, by show x.sq ≤ max s.gr x.sq; omega⟩
  · rw [List.pairwise_append]
    refine ⟨h.nd, by simp, fun a ha b hb => ?_⟩
    simp only [List.mem_singleton] at hb
    subst hb
    unfold hasN at hx
    rw [List.any_eq_false] at hx
    have := hx a ha
    simpa using this
theorem Sg.tkS {hold : Nat} {s : Ss} (h : Sg hold s) {d : Dm} (hr : 0 ≤ d.sq ∧ d.sq < 18446744073709551616) : Sg hold (tkS hold s d) := by
  unfold Go.Proofs.Ytojmcfkbekodpaa.Fd.tkS
  split
  · exact h
  · rename_i h1
    have hd : dOk d = true := by simpa using h1
    split
    · exact h
    · rename_i h2
      split
      · exact ((h.up hr).doS hd hr).goS
      · split
        · rename_i h4
          exact h.held hd hr (by cases hq : hasN s.L d.sq with | false => rfl | true => exact absurd (.inr hq) h2) h4
        · exact h.up hr
/-- Recover. -/
def rcS (s : Ss) (sq : Int) (l1 l2 : List Lv) : Ss :=
  if (lok 1 l1 && lok 2 l2) = false then s else if sq < s.sq then s else goS ⟨sq, s.gr, l1, l2, s.L.filter (fun d => decide (sq < d.sq)), s.la⟩
def rcE (s : Ss) (sq : Int) (l1 l2 : List Lv) : Int := if (lok 1 l1 && lok 2 l2) = false then 1 else if sq < s.sq then 180 else 0
theorem Sg.pic {hold : Nat} {s : Ss} (h : Sg hold s) {sq : Int} {l1 l2 : List Lv} (hr : 0 ≤ sq ∧ sq < 18446744073709551616) (h1 : lok 1 l1 = true) (h2 : lok 2 l2 = true) : Sg hold ⟨sq, s.gr, l1, l2, s.L.filter (fun d => decide (sq < d.sq)), s.la⟩ :=
  ⟨hr, h.gr, (lok_iff _ _).1 h1, (lok_iff _ _).1 h2, fun d hd => h.hl d (List.mem_filter.1 hd).1, h.nd.filter _, Nat.le_trans (List.length_filter_le _ _) h.len, h.la⟩
theorem Sg.rcS {hold : Nat} {s : Ss} (h : Sg hold s) {sq : Int} {l1 l2 : List Lv} (hr : 0 ≤ sq ∧ sq < 18446744073709551616) : Sg hold (rcS s sq l1 l2) := by
  unfold Go.Proofs.Ytojmcfkbekodpaa.Fd.rcS
  split
  · exact h
  · rename_i hc
    have hc' : (lok 1 l1 && lok 2 l2) = true := by simpa using hc
    rw [Bool.and_eq_true] at hc'
    split
    · exact h
    · exact (h.pic hr hc'.1 hc'.2).goS
end Go.Proofs.Ytojmcfkbekodpaa.Fd
