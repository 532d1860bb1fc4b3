/-
  Positions: they add up to 0, and what they cost has their sign. Plainly.
-/
import Derived.Test.YtphhllppgelceaaAcS
namespace Go.Proofs.Ytphhllppgelceaa.Ac
open Go.RowKit Go.Deep Go.Maps Go.Proofs.Ytphhllppgelceaa.MonM
set_option linter.unusedVariables false
set_option linter.unusedSimpArgs false
/-- what a position cost has its sign. -/
structure Sg (x : Po) : Prop where
  z : x.qt = 0 → x.co = 0
  p : 0 < x.qt → 0 ≤ x.co
  n : x.qt < 0 → x.co ≤ 0
theorem ptn_pos {m a b : Int} (hm : 0 ≤ m) (ha : 0 ≤ a) (hab : a ≤ b) (hb : 0 < b) : 0 ≤ ptn m a b 0 ∧ ptn m a b 0 ≤ m := by
  obtain ⟨_, _, p0, p1⟩ := ptq_le m a b 0 ha hab hb
  have e : absI m = m := by unfold absI; rw [if_neg (by omega)]
  rw [e] at p1
  unfold ptn
  rw [if_neg (by omega)]
  exact ⟨p0, p1⟩
theorem ptn_neg {m a b : Int} (hm : m ≤ 0) (ha : 0 ≤ a) (hab : a ≤ b) (hb : 0 < b) : m ≤ ptn m a b 0 ∧ ptn m a b 0 ≤ 0 := by
  by_cases h : m = 0
  · subst h
    have := ptn_pos (m := 0) (Int.le_refl _) ha hab hb
    omega
  · obtain ⟨_, _, p0, p1⟩ := ptq_le m a b 0 ha hab hb
    have e : absI m = -m := by unfold absI; rw [if_pos (by omega)]
    rw [e] at p1
    unfold ptn
    rw [if_pos (by omega)]
    omega
theorem ptn_all (m a : Int) (ha : 0 < a) : ptn m a a 0 = m := by
  have e : ptq m a a 0 = absI m := by
    unfold ptq
    rw [if_neg (fun h => absurd h.1 (by decide)), Int.mul_ediv_cancel _ (by omega)]
    omega
  unfold ptn
  rw [e]
  unfold absI
  split <;> omega
theorem maddV_self (m : Int) : maddV m (-m) = 0 := by
  unfold maddV
  split <;> omega
theorem maddV_nn {m n : Int} (h : 0 ≤ m + n) : 0 ≤ maddV m n := by unfold maddV; split <;> omega
theorem maddV_np {m n : Int} (h : m + n ≤ 0) : maddV m n ≤ 0 := by unfold maddV; split <;> omega
theorem absI_pos {n : Int} (h : 0 ≤ n) : absI n = n := by unfold absI; rw [if_neg (by omega)]
theorem absI_neg {n : Int} (h : n < 0) : absI n = -n := if_pos h
theorem bhp_sg (p : Po) (d money : Int) (hs : Sg p) (hd : d ≠ 0) (h1 : 0 < d → money ≤ 0) (h2 : d < 0 → 0 ≤ money) : Sg (bhp p d money) := by
  have hz := hs.z
  have hp := hs.p
  have hn := hs.n
  have hqt := bhp_qt p d money hd
  unfold bhp at hqt ⊢
  split
  · rename_i h
    by_cases hd0 : 0 < d
    · have hm := h1 hd0
      have hq : 0 ≤ p.qt := by
        rcases h with h | h
        · omega
        · rw [decide_eq_true hd0] at h; have := of_decide_eq_true h; omega
      have hc : 0 ≤ p.co := by
        by_cases e : p.qt = 0
        · have := hz e; omega
        · exact hp (by omega)
      have := maddV_nn (m := p.co) (n := -money) (by omega)
      exact ⟨fun e => by simp only at e; omega, fun _ => this, fun e => by simp only at e; omega⟩
    · have hm := h2 (by omega)
      have hq : p.qt ≤ 0 := by
        rcases h with h | h
        · omega
        · rw [decide_eq_false hd0] at h; have := of_decide_eq_false h; omega
      have hc : p.co ≤ 0 := by
        by_cases e : p.qt = 0
        · have := hz e; omega
        · exact hn (by omega)
      have := maddV_np (m := p.co) (n := -money) (by omega)
      exact ⟨fun e => by simp only at e; omega, fun e => by simp only at e; omega, fun _ => this⟩
  · rename_i h
    have hq0 : p.qt ≠ 0 := fun e => h (.inl e)
    have hss : ¬ decide (0 < p.qt) = decide (0 < d) := fun e => h (.inr e)
    have opp : 0 < p.qt ∧ d < 0 ∨ p.qt < 0 ∧ 0 < d := by
      by_cases a : 0 < p.qt <;> by_cases b : 0 < d
      · rw [decide_eq_true a, decide_eq_true b] at hss; exact absurd rfl hss
      · exact .inl ⟨a, by omega⟩
      · exact .inr ⟨by omega, b⟩
      · rw [decide_eq_false a, decide_eq_false b] at hss; exact absurd rfl hss
    rw [if_neg h] at hqt
    split
    · rename_i hle
      rw [if_pos hle] at hqt
      have eco : (clo p d money).co = maddV p.co (-(ptn p.co (absI d) (absI p.qt) 0)) := by
        show maddV p.co (-(ptn p.co (min (absI d) (absI p.qt)) (absI p.qt) 0)) = _
        rw [Int.min_eq_left hle]
      rcases opp with ⟨o1, o2⟩ | ⟨o1, o2⟩
      · rw [absI_neg o2, absI_pos (by omega)] at hle eco
        obtain ⟨x0, x1⟩ := ptn_pos (m := p.co) (a := -d) (b := p.qt) (hp o1) (by omega) hle o1
        have c0 := maddV_nn (m := p.co) (n := -(ptn p.co (-d) p.qt 0)) (by omega)
        refine ⟨fun e => ?_, fun _ => by rw [eco]; exact c0, fun e => by rw [hqt] at e; omega⟩
        rw [hqt] at e
        rw [eco, show -d = p.qt by omega, ptn_all _ _ o1, maddV_self]
      · rw [absI_pos (by omega), absI_neg o1] at hle eco
        obtain ⟨x0, x1⟩ := ptn_neg (m := p.co) (a := d) (b := -p.qt) (hn o1) (by omega) hle (by omega)
        have c0 := maddV_np (m := p.co) (n := -(ptn p.co d (-p.qt) 0)) (by omega)
        refine ⟨fun e => ?_, fun e => by rw [hqt] at e; omega, fun _ => by rw [eco]; exact c0⟩
        rw [hqt] at e
        rw [eco, show d = -p.qt by omega, ptn_all _ _ (by omega), maddV_self]
    · rename_i hle
      rw [if_neg hle] at hqt
      have eco : (clv p d money).co = maddV 0 (-(maddV money (-(ptn money (absI p.qt) (absI d) 0)))) := by
        show maddV (maddV p.co (-(ptn p.co (absI p.qt) (absI p.qt) 0))) _ = _
        rw [ptn_all _ _ (by unfold absI; split <;> omega), maddV_self]
      rcases opp with ⟨o1, o2⟩ | ⟨o1, o2⟩
      · rw [absI_neg o2, absI_pos (by omega)] at hle eco
        obtain ⟨x0, x1⟩ := ptn_pos (m := money) (a := p.qt) (b := -d) (h2 o2) (by omega) (by omega) (by omega)
        have c1 := maddV_nn (m := money) (n := -(ptn money p.qt (-d) 0)) (by omega)
        have c0 := maddV_np (m := 0) (n := -(maddV money (-(ptn money p.qt (-d) 0)))) (by omega)
        exact ⟨fun e => by rw [hqt] at e; omega, fun e => by rw [hqt] at e; omega, fun _ => by rw [eco]; exact c0⟩
      · rw [absI_pos (n := d) (by omega), absI_neg o1] at hle eco
        obtain ⟨x0, x1⟩ := ptn_neg (m := money) (a := -p.qt) (b := d) (h1 o2) (by omega) (by omega) (by omega)
        have c1 := maddV_np (m := money) (n := -(ptn money (-p.qt) d 0)) (by omega)
        have c0 := maddV_nn (m := 0) (n := -(maddV money (-(ptn money (-p.qt) d 0)))) (by omega)
        exact ⟨fun e => by rw [hqt] at e; omega, fun _ => by rw [eco]; exact c0, fun e => by rw [hqt] at e; omega⟩
/-- the sum of something over members. -/
def tot (l : List Int) (h : Int → Int) : Int := (l.map h).sum
theorem tot_nil (h : Int → Int) : tot [] h = 0 := rfl
theorem tot_cons (a : Int) (l : List Int) (h : Int → Int) : tot (a :: l) h = h a + tot l h := by simp [tot]
theorem tot_snoc (l : List Int) (a : Int) (h : Int → Int) : tot (l ++ [a]) h = tot l h + h a := by
  induction l with
  | nil => simp [tot]
  | cons x l ih => rw [List.cons_append, tot_cons, tot_cons, ih]; omega
theorem tot_same {l : List Int} {h h' : Int → Int} (e : ∀ m ∈ l, h m = h' m) : tot l h = tot l h' := by
  induction l with
  | nil => rfl
  | cons x l ih => rw [tot_cons, tot_cons, e x List.mem_cons_self, ih (fun m hm => e m (List.mem_cons_of_mem _ hm))]
theorem tot_upd {l : List Int} (hn : l.Nodup) {a : Int} (ha : a ∈ l) (h : Int → Int) (v : Int) : tot l (fun m => if m = a then v else h m) = tot l h + v - h a := by
  induction l with
  | nil => cases ha
  | cons x l ih =>
    rw [List.nodup_cons] at hn
    rw [tot_cons, tot_cons]
    by_cases e : x = a
    · subst e
      rw [if_pos rfl, tot_same (l := l) (h := fun m => if m = x then v else h m) (h' := h) (fun m hm => if_neg (fun e => hn.1 (by rw [← e]; exact hm)))]
      omega
    · rw [if_neg e]
      have := ih hn.2 (by rcases List.mem_cons.1 ha with h | h; exact absurd h.symm e; exact h)
      omega
/-- all open members, each once. -/
structure Mb (s : Ls) (l : List Int) : Prop where
  nd : l.Nodup
  u : ∀ m ∈ l, U32 m
  iff : ∀ m, U32 m → (m ∈ l ↔ (s.f (m, 1)).isSome = true)
theorem Mb.perm {s : Ls} {l l' : List Int} (h : Mb s l) (p : l'.Perm l) : Mb s l' :=
  ⟨p.nodup_iff.2 h.nd, fun m hm => h.u m (p.mem_iff.1 hm), fun m hm => p.mem_iff.trans (h.iff m hm)⟩
theorem upd_some {f : Int × Int → Option Int} {a : Int × Int} {v : Int} {x : Int × Int} (h : x = a → (f x).isSome = true) : (upd f a v x).isSome = (f x).isSome := by
  unfold upd
  split
  · rename_i e; rw [h e]; rfl
  · rfl
theorem ent_open (s : Ls) (a b : Int × Int) (v m : Int) (ha : a.2 = 1 → (s.f a).isSome = true) (hb : b.2 = 1 → (s.f b).isSome = true) : ((ent s a b v).f (m, 1)).isSome = (s.f (m, 1)).isSome := by
  unfold ent
  split
  · rfl
  · show (upd (upd s.f a _) b _ (m, 1)).isSome = _
    have e1 : ∀ u, (upd s.f a u (m, 1)).isSome = (s.f (m, 1)).isSome := fun u => upd_some (fun e => by rw [e]; exact ha (by rw [← e]))
    rw [upd_some (fun e => ?_), e1]
    rw [e1, e]
    exact hb (by rw [← e])
theorem bkd_open {s : Ls} {d : De} (hb : (s.f (d.bu, 1)).isSome = true) (hs : (s.f (d.se, 1)).isSome = true) (bo so : Po) (m : Int) : ((bkd s d bo so).f (m, 1)).isSome = (s.f (m, 1)).isSome := by
  show ((ent (ent (ent s (d.bu, 1) (d.se, 1) _) (d.bu, 1) (0, 2) _) (d.se, 1) (0, 2) _).f (m, 1)).isSome = _
  have e1 := fun m v => ent_open s (d.bu, 1) (d.se, 1) v m (fun _ => hb) (fun _ => hs)
  have e2 := fun m v u => (ent_open (ent s (d.bu, 1) (d.se, 1) v) (d.bu, 1) (0, 2) u m (fun _ => by rw [e1]; exact hb) (fun h => absurd h (by decide))).trans (e1 m v)
  rw [ent_open _ (d.se, 1) (0, 2) _ m (fun _ => by rw [e2]; exact hs) (fun h => absurd h (by decide)), e2]
theorem bkc_open {s : Ls} {d : De} (h : bkc s d = 0) : (s.f (d.bu, 1)).isSome = true ∧ (s.f (d.se, 1)).isSome = true := by
  unfold bkc at h
  split at h
  · cases h
  · rename_i h1
    exact ⟨by cases e : (s.f (d.bu, 1)).isSome with | true => rfl | false => exact absurd (.inl e) h1, by cases e : (s.f (d.se, 1)).isSome with | true => rfl | false => exact absurd (.inr e) h1⟩
/-- all is flat. -/
structure Fl (s : Ls) : Prop where
  sum : ∀ l, Mb s l → ∀ i, tot l (fun m => (s.g m i).qt) = 0
  sg : ∀ m i, Sg (s.g m i)
theorem Fl.book {s s' : Ls} {d : De} (h : Fl s) (hd : DeOk d) (hb : Bkd s d s') : Fl s' := by
  obtain ⟨o1, o2⟩ := bkc_open hb.bk
  have H := bkc_ok hb.bk
  have hq0 := H.q0
  have hp0 := H.p0
  have hv : 0 ≤ d.pr * d.qt := Int.mul_nonneg hp0 (by omega)
  have hg : s'.g = gupd (gupd s.g d.bu d.it (bkA s d)) d.se d.it (bkC s d) := by rw [hb.st, bkd_g]
  have qa : (bkA s d).qt = (s.g d.bu d.it).qt + d.qt := bhp_qt _ _ _ (by omega)
  have qc : (bkC s d).qt = (if d.se = d.bu then bkA s d else s.g d.se d.it).qt - d.qt := by
    unfold bkC
    rw [bhp_qt _ _ _ (by omega)]
    omega
  constructor
  · intro l hl i
    have hl0 : Mb s l := ⟨hl.nd, hl.u, fun m hm => by rw [hl.iff m hm, hb.st, bkd_open o1 o2]⟩
    have h0 := h.sum l hl0 i
    have mb : d.bu ∈ l := (hl0.iff _ hd.bu).2 o1
    have ms : d.se ∈ l := (hl0.iff _ hd.se).2 o2
    rw [hg]
    by_cases hi : i = d.it
    · subst hi
      have e1 : ∀ m, (gupd (gupd s.g d.bu d.it (bkA s d)) d.se d.it (bkC s d) m d.it).qt = if m = d.se then (bkC s d).qt else if m = d.bu then (bkA s d).qt else (s.g m d.it).qt := by
        intro m
        unfold gupd
        by_cases a : m = d.se
        · rw [if_pos ⟨a, rfl⟩, if_pos a]
        · rw [if_neg (fun e => a e.1), if_neg a]
          by_cases b : m = d.bu
          · rw [if_pos ⟨b, rfl⟩, if_pos b]
          · rw [if_neg (fun e => b e.1), if_neg b]
      rw [tot_same (fun m _ => e1 m), tot_upd hl.nd ms (fun m => if m = d.bu then (bkA s d).qt else (s.g m d.it).qt), tot_upd hl.nd mb (fun m => (s.g m d.it).qt), h0]
      by_cases hs : d.se = d.bu
      · rw [if_pos hs] at qc ⊢
        omega
      · rw [if_neg hs] at qc ⊢
        omega
    · rw [← h0]
      refine tot_same (fun m _ => ?_)
      unfold gupd
      rw [if_neg (fun e => hi e.2), if_neg (fun e => hi e.2)]
  · intro m i
    have sa : Sg (bkA s d) := bhp_sg _ _ _ (h.sg _ _) (by omega) (fun _ => by omega) (fun e => by omega)
    have sc : Sg (bkC s d) := by
      unfold bkC
      refine bhp_sg _ _ _ ?_ (by omega) (fun e => by omega) (fun _ => hv)
      split
      · exact sa
      · exact h.sg _ _
    rw [hg]
    unfold gupd
    split
    · exact sc
    · split
      · exact sa
      · exact h.sg _ _
theorem sg0 : Sg po0 := ⟨fun _ => rfl, fun _ => Int.le_refl _, fun _ => Int.le_refl _⟩
theorem tot_zero (l : List Int) : tot l (fun _ => 0) = 0 := by
  induction l with
  | nil => rfl
  | cons x l ih => rw [tot_cons, ih]; rfl
end Go.Proofs.Ytphhllppgelceaa.Ac
