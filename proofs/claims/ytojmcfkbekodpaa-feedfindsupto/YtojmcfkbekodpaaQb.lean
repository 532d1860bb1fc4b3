/-
  What a publisher told, done one behind the other, is its picture; plain.
-/
import Derived.Test.YtojmcfkbekodpaaPv
import Derived.Test.YtojmcfkbekodpaaQa
namespace Go.Proofs.Ytojmcfkbekodpaa
open Go.RowKit Go.Deep Go.Shelf
set_option linter.unusedVariables false
set_option linter.unusedSimpArgs false
set_option maxHeartbeats 1000000
/-- levels behind messages. -/
def fds (s : Int) (l : List Fd.Lv) (D : List Fd.Dm) : List Fd.Lv := D.foldl (fun a m => Fd.dnS s m a) l
theorem fds_nil (s : Int) (l : List Fd.Lv) : fds s l [] = l := rfl
theorem fds_cons (s : Int) (l : List Fd.Lv) (m : Fd.Dm) (D : List Fd.Dm) : fds s l (m :: D) = fds s (Fd.dnS s m l) D := rfl
theorem fds_app (s : Int) (l : List Fd.Lv) (a b : List Fd.Dm) : fds s l (a ++ b) = fds s (fds s l a) b := by simp [fds]
theorem dnS_off {s : Int} {m : Fd.Dm} {l : List Fd.Lv} (h : ¬ (m.kd = 1 ∧ m.sd = s)) : Fd.dnS s m l = l := by unfold Fd.dnS; rw [if_neg h]
theorem fds_off {s : Int} : ∀ {D : List Fd.Dm} {l : List Fd.Lv}, (∀ m ∈ D, ¬ (m.kd = 1 ∧ m.sd = s)) → fds s l D = l
  | [], l, h => rfl
  | m :: D, l, h => by rw [fds_cons, dnS_off (h m List.mem_cons_self)]; exact fds_off (fun x hx => h x (List.mem_cons_of_mem _ hx))
def Pw (s : Int) (l : List Fd.Lv) : Prop := l.Pairwise (fun x y => Fd.bt s x.pr y.pr = true)
theorem dnS_gone {s : Int} {c a : List Fd.Lv} {x : Fd.Lv} (h : Pw s (c ++ x :: a)) : Fd.dnS s (Fd.gone s x) (c ++ x :: a) = c ++ a := by
  have hp := List.pairwise_append.1 h
  unfold Fd.dnS
  rw [if_pos ⟨rfl, rfl⟩]
  show Fd.dnl s ⟨x.pr, 0, 0⟩ true (c ++ x :: a) = c ++ a
  rw [Fd.dnl_lo (v := ⟨x.pr, 0, 0⟩) true (fun y hy => hp.2.2 y hy x List.mem_cons_self)]
  congr 1
  have hx := List.pairwise_cons.1 hp.2.1
  simp only [Fd.dnl, if_pos]
  simp
  exact Fd.dnl_put (fun y hy e => by have := Fd.bt_ne (hx.1 y hy); exact this e.symm)
theorem tld_nz {y : Fd.Lv} (h : Fd.lvG y = true) : (y.ct == 0) = false := by
  unfold Fd.lvG at h
  have := of_decide_eq_true h
  simp
  omega
theorem dnS_end {s : Int} {c : List Fd.Lv} {y : Fd.Lv} (h : Pw s (c ++ [y])) (hy : Fd.lvG y = true) : Fd.dnS s (Fd.tld s y) c = c ++ [y] := by
  have hp := List.pairwise_append.1 h
  unfold Fd.dnS
  rw [if_pos ⟨rfl, rfl⟩]
  show Fd.dnl s y (y.ct == 0) c = c ++ [y]
  rw [tld_nz hy]
  conv => lhs; rw [← List.append_nil c]
  rw [Fd.dnl_lo false (fun z hz => hp.2.2 z hz y (by simp))]
  rfl
theorem dnS_in {s : Int} {c a : List Fd.Lv} {x y : Fd.Lv} (hc : ∀ z ∈ c, Fd.bt s z.pr y.pr = true) (ha : ∀ z ∈ a, Fd.bt s y.pr z.pr = true) (hy : Fd.lvG y = true) (hx : Fd.bt s x.pr y.pr = false) : Fd.dnS s (Fd.tld s y) (c ++ x :: a) = c ++ y :: (if x.pr = y.pr then a else x :: a) := by
  unfold Fd.dnS
  rw [if_pos ⟨rfl, rfl⟩]
  show Fd.dnl s y (y.ct == 0) (c ++ x :: a) = _
  rw [tld_nz hy, Fd.dnl_lo false hc]
  congr 1
  simp only [Fd.dnl, hx]
  have hput : Fd.dnl s y true a = a := Fd.dnl_put (fun z hz e => by have := Fd.bt_ne (ha z hz); exact this e.symm)
  simp only [Bool.not_false, Bool.and_self, Bool.or_true, if_true, hput]
  by_cases e : x.pr = y.pr
  · rw [if_pos e, if_pos e]; rfl
  · rw [if_neg e, if_neg e]; rfl
theorem chg_fold (s : Int) : ∀ (n : Nat) (c a b : List Fd.Lv), a.length + b.length ≤ n → Pw s (c ++ a) → Pw s (c ++ b) → (∀ y ∈ b, Fd.lvG y = true) → fds s (c ++ a) (Fd.chg s a b) = c ++ b
  | n, c, [], [], hn, ha, hb, hg => by rw [Fd.chg_nn]; rfl
  | 0, c, _ :: _, _, hn, ha, hb, hg => by simp at hn
  | 0, c, [], _ :: _, hn, ha, hb, hg => by simp at hn
  | n + 1, c, x :: a, [], hn, ha, hb, hg => by
    rw [Fd.chg_cn, fds_cons, dnS_gone ha]
    refine chg_fold s n c a [] (by simp at hn ⊢; omega) ?_ hb (by simp)
    exact List.Pairwise.sublist (List.Sublist.append (List.Sublist.refl _) (List.sublist_cons_self _ _)) ha
  | n + 1, c, [], y :: b, hn, ha, hb, hg => by
    rw [Fd.chg_nc, fds_cons, List.append_nil]
    have h1 : Pw s (c ++ [y]) := List.Pairwise.sublist (List.Sublist.append (List.Sublist.refl _) (by simp)) hb
    rw [dnS_end h1 (hg y List.mem_cons_self)]
    have := chg_fold s n (c ++ [y]) [] b (by simp at hn ⊢; omega) (by rw [List.append_nil]; exact h1) (by rw [List.append_assoc]; exact hb) (fun z hz => hg z (List.mem_cons_of_mem _ hz))
    rw [List.append_nil, List.append_assoc] at this
    exact this
  | n + 1, c, x :: a, y :: b, hn, ha, hb, hg => by
    have pa := List.pairwise_append.1 ha
    have pb := List.pairwise_append.1 hb
    have qa := List.pairwise_cons.1 pa.2.1
    have qb := List.pairwise_cons.1 pb.2.1
    have hgy := hg y List.mem_cons_self
    have hgb : ∀ z ∈ b, Fd.lvG z = true := fun z hz => hg z (List.mem_cons_of_mem _ hz)
    simp only [List.length_cons] at hn
    have hcy : ∀ z ∈ c, Fd.bt s z.pr y.pr = true := fun z hz => pb.2.2 z hz y List.mem_cons_self
    have hb' : Pw s (c ++ [y] ++ b) := by rw [List.append_assoc]; exact hb
    have hca : Pw s (c ++ a) := List.Pairwise.sublist (List.Sublist.append (List.Sublist.refl _) (List.sublist_cons_self _ _)) ha
    by_cases h1 : Fd.bt s x.pr y.pr = true
    · rw [Fd.chg_lt h1, fds_cons, dnS_gone ha]
      exact chg_fold s n c a (y :: b) (by simp; omega) hca hb hg
    · have h1' : Fd.bt s x.pr y.pr = false := by simpa using h1
      by_cases h2 : Fd.bt s y.pr x.pr = true
      · have hya : ∀ z ∈ a, Fd.bt s y.pr z.pr = true := fun z hz => Fd.bt_trans h2 (qa.1 z hz)
        rw [Fd.chg_gt h2, fds_cons, dnS_in hcy hya hgy h1', if_neg (fun e => by have := Fd.bt_ne h2; exact this e.symm)]
        have hP : Pw s (c ++ [y] ++ x :: a) := by
          unfold Pw
          rw [List.append_assoc, List.singleton_append, List.pairwise_append, List.pairwise_cons]
          refine ⟨pa.1, ⟨fun z hz => ?_, pa.2.1⟩, fun z hz u hu => ?_⟩
          · rcases List.mem_cons.1 hz with rfl | hz
            · exact h2
            · exact hya z hz
          · rcases List.mem_cons.1 hu with rfl | hu
            · exact hcy z hz
            · exact pa.2.2 z hz u hu
        have := chg_fold s n (c ++ [y]) (x :: a) b (by simp; omega) hP hb' hgb
        rw [List.append_assoc, List.append_assoc] at this
        exact this
      · have h2' : Fd.bt s y.pr x.pr = false := by simpa using h2
        have he : x.pr = y.pr := Fd.bt_tri h1' h2'
        have hya : ∀ z ∈ a, Fd.bt s y.pr z.pr = true := fun z hz => by rw [← he]; exact qa.1 z hz
        have hP : Pw s (c ++ [y] ++ a) := by
          unfold Pw
          rw [List.append_assoc, List.singleton_append, List.pairwise_append, List.pairwise_cons]
          refine ⟨pa.1, ⟨hya, qa.2⟩, fun z hz u hu => ?_⟩
          rcases List.mem_cons.1 hu with rfl | hu
          · exact hcy z hz
          · exact pa.2.2 z hz u (List.mem_cons_of_mem _ hu)
        have ih := chg_fold s n (c ++ [y]) a b (by omega) hP hb' hgb
        rw [List.append_assoc, List.append_assoc] at ih
        by_cases e : x = y
        · subst e
          rw [Fd.chg_eq]
          exact ih
        · rw [Fd.chg_ne he e, fds_cons, dnS_in hcy hya hgy h1', if_pos he]
          exact ih
theorem chg_side (s : Int) : ∀ (n : Nat) (a b : List Fd.Lv), a.length + b.length ≤ n → ∀ m ∈ Fd.chg s a b, m.sd = s
  | n, [], [], hn, m, hm => by rw [Fd.chg_nn] at hm; simp at hm
  | 0, _ :: _, _, hn, m, hm => by simp at hn
  | 0, [], _ :: _, hn, m, hm => by simp at hn
  | n + 1, x :: a, [], hn, m, hm => by
    rw [Fd.chg_cn] at hm
    rcases List.mem_cons.1 hm with rfl | hm
    · rfl
    · exact chg_side s n a [] (by simp at hn ⊢; omega) m hm
  | n + 1, [], y :: b, hn, m, hm => by
    rw [Fd.chg_nc] at hm
    rcases List.mem_cons.1 hm with rfl | hm
    · rfl
    · exact chg_side s n [] b (by simp at hn ⊢; omega) m hm
  | n + 1, x :: a, y :: b, hn, m, hm => by
    simp only [List.length_cons] at hn
    rw [Fd.chg] at hm
    split at hm
    · rcases List.mem_cons.1 hm with rfl | hm
      · rfl
      · exact chg_side s n a (y :: b) (by simp; omega) m hm
    · split at hm
      · rcases List.mem_cons.1 hm with rfl | hm
        · rfl
        · exact chg_side s n (x :: a) b (by simp; omega) m hm
      · split at hm
        · exact chg_side s n a b (by omega) m hm
        · rcases List.mem_cons.1 hm with rfl | hm
          · rfl
          · exact chg_side s n a b (by omega) m hm
theorem chg_folds {s : Int} {a b : List Fd.Lv} (ha : Fd.Lok s a) (hb : Fd.Lok s b) : fds s a (Fd.chg s a b) = b := by
  have h1 := Fd.Lok_iff.1 ha
  have h2 := Fd.Lok_iff.1 hb
  exact chg_fold s _ [] a b (Nat.le_refl _) h1.2 h2.2 h2.1
theorem trd_kd2 (E : List Fd.Ev) : ∀ m ∈ Fd.trd E, m.kd = 2 := by
  intro m hm
  unfold Fd.trd at hm
  obtain ⟨e, _, rfl⟩ := List.mem_map.1 hm
  rfl
/-- what a command told, done, is the next picture. -/
theorem tdl_fold {l1 l2 : List Fd.Lv} {b : Bs} {d : Nat} {E : List Fd.Ev} (h1 : Fd.Lok 1 l1) (h2 : Fd.Lok 2 l2) (k1 : Fd.Lok 1 (bl b 1 d)) (k2 : Fd.Lok 2 (bl b 2 d)) : fds 1 l1 (tdl l1 l2 b d E) = bl b 1 d ∧ fds 2 l2 (tdl l1 l2 b d E) = bl b 2 d := by
  unfold tdl
  have t : ∀ s l, fds s l (Fd.trd E) = l := fun s l => fds_off (fun m hm => by rw [trd_kd2 E m hm]; intro h; exact absurd h.1 (by decide))
  have c1 : ∀ l, fds 2 l (Fd.chg 1 l1 (bl b 1 d)) = l := fun l => fds_off (fun m hm => by rw [chg_side 1 _ _ _ (Nat.le_refl _) m hm]; intro h; exact absurd h.2 (by decide))
  have c2 : ∀ l, fds 1 l (Fd.chg 2 l2 (bl b 2 d)) = l := fun l => fds_off (fun m hm => by rw [chg_side 2 _ _ _ (Nat.le_refl _) m hm]; intro h; exact absurd h.2 (by decide))
  constructor
  · rw [fds_app, fds_app, t, c2, chg_folds h1 k1]
  · rw [fds_app, fds_app, t, c1, chg_folds h2 k2]
theorem dnS_core {s : Int} {m m' : Fd.Dm} {l : List Fd.Lv} (h : m.kd = m'.kd ∧ m.sd = m'.sd ∧ m.pr = m'.pr ∧ m.qt = m'.qt ∧ m.ct = m'.ct) : Fd.dnS s m l = Fd.dnS s m' l := by
  unfold Fd.dnS Fd.lvD
  rw [h.1, h.2.1, h.2.2.1, h.2.2.2.1, h.2.2.2.2]
theorem fds_core {s : Int} : ∀ (A B : List Fd.Dm) (l : List Fd.Lv), A.length = B.length → (∀ i (h : i < A.length) (h' : i < B.length), A[i].kd = B[i].kd ∧ A[i].sd = B[i].sd ∧ A[i].pr = B[i].pr ∧ A[i].qt = B[i].qt ∧ A[i].ct = B[i].ct) → fds s l A = fds s l B
  | [], [], l, _, _ => rfl
  | x :: A, y :: B, l, hl, h => by
    have h0 := h 0 (by simp) (by simp)
    simp only [List.getElem_cons_zero] at h0
    rw [fds_cons, fds_cons, dnS_core h0]
    exact fds_core A B _ (by simpa using hl) (fun i hi hi' => h (i + 1) (by simp; omega) (by simp; omega))
theorem fds_nmb (s : Int) (k : Int) (l : List Fd.Lv) (D : List Fd.Dm) : fds s l (Fd.nmb k D) = fds s l D := by
  refine fds_core _ _ _ (Fd.nmb_len k D) (fun i h h' => ?_)
  rw [Fd.nmb_get k D i h']
  exact ⟨rfl, rfl, rfl, rfl, rfl⟩
end Go.Proofs.Ytojmcfkbekodpaa
namespace Go.Proofs.Ytojmcfkbekodpaa
open Go.RowKit Go.Deep Go.Shelf
set_option linter.unusedVariables false
set_option linter.unusedSimpArgs false
set_option maxHeartbeats 1000000
theorem chg_ok (s : Int) (hs : s = 1 ∨ s = 2) (k : Int) (hk : 1 ≤ k) : ∀ (n : Nat) (a b : List Fd.Lv), a.length + b.length ≤ n → (∀ x ∈ a, Fd.lvG x = true) → (∀ y ∈ b, Fd.lvG y = true) → ∀ m ∈ Fd.chg s a b, Fd.dOk { m with sq := k } = true := by
  have hgone : ∀ x : Fd.Lv, Fd.lvG x = true → Fd.dOk { Fd.gone s x with sq := k } = true := fun x hx => by
    have := of_decide_eq_true (show decide (0 ≤ x.pr ∧ x.pr < 262144 ∧ 1 ≤ x.qt ∧ 1 ≤ x.ct) = true from hx)
    rw [Fd.dOk_iff]
    exact ⟨hk, hs, ⟨this.1, this.2.1⟩, .inl ⟨rfl, .inl ⟨rfl, rfl⟩⟩⟩
  have htld : ∀ x : Fd.Lv, Fd.lvG x = true → Fd.dOk { Fd.tld s x with sq := k } = true := fun x hx => by
    have := of_decide_eq_true (show decide (0 ≤ x.pr ∧ x.pr < 262144 ∧ 1 ≤ x.qt ∧ 1 ≤ x.ct) = true from hx)
    rw [Fd.dOk_iff]
    exact ⟨hk, hs, ⟨this.1, this.2.1⟩, .inl ⟨rfl, .inr this.2.2⟩⟩
  intro n
  induction n with
  | zero =>
    intro a b hn ha hb m hm
    have h1 : a = [] := List.eq_nil_of_length_eq_zero (by omega)
    have h2 : b = [] := List.eq_nil_of_length_eq_zero (by omega)
    subst h1 h2
    rw [Fd.chg_nn] at hm
    simp at hm
  | succ n ih =>
    intro a b hn ha hb m hm
    match a, b, hn, ha, hb, hm with
    | [], [], hn, ha, hb, hm => rw [Fd.chg_nn] at hm; simp at hm
    | x :: a, [], hn, ha, hb, hm =>
      rw [Fd.chg_cn] at hm
      rcases List.mem_cons.1 hm with rfl | hm
      · exact hgone x (ha x List.mem_cons_self)
      · exact ih a [] (by simp at hn ⊢; omega) (fun z hz => ha z (List.mem_cons_of_mem _ hz)) hb m hm
    | [], y :: b, hn, ha, hb, hm =>
      rw [Fd.chg_nc] at hm
      rcases List.mem_cons.1 hm with rfl | hm
      · exact htld y (hb y List.mem_cons_self)
      · exact ih [] b (by simp at hn ⊢; omega) ha (fun z hz => hb z (List.mem_cons_of_mem _ hz)) m hm
    | x :: a, y :: b, hn, ha, hb, hm =>
      simp only [List.length_cons] at hn
      have ha' : ∀ z ∈ a, Fd.lvG z = true := fun z hz => ha z (List.mem_cons_of_mem _ hz)
      have hb' : ∀ z ∈ b, Fd.lvG z = true := fun z hz => hb z (List.mem_cons_of_mem _ hz)
      rw [Fd.chg] at hm
      split at hm
      · rcases List.mem_cons.1 hm with rfl | hm
        · exact hgone x (ha x List.mem_cons_self)
        · exact ih a (y :: b) (by simp; omega) ha' hb m hm
      · split at hm
        · rcases List.mem_cons.1 hm with rfl | hm
          · exact htld y (hb y List.mem_cons_self)
          · exact ih (x :: a) b (by simp; omega) ha hb' m hm
        · split at hm
          · exact ih a b (by omega) ha' hb' m hm
          · rcases List.mem_cons.1 hm with rfl | hm
            · exact htld y (hb y List.mem_cons_self)
            · exact ih a b (by omega) ha' hb' m hm
theorem trd_ok {es : List Ev} (h : ∀ e ∈ es, TrG e) (k : Int) (hk : 1 ≤ k) : ∀ m ∈ Fd.trd (es.map fev), Fd.dOk { m with sq := k } = true := by
  intro m hm
  have h1 := trOk_of h
  unfold Fd.trOk at h1
  have h2 := (Fd.dOk_iff m).1 (List.all_eq_true.1 h1 m hm)
  rw [Fd.dOk_iff]
  exact ⟨hk, h2.2⟩
/-- what was told: its numbers, that it can be, its pictures. -/
structure Tl (D : List Fd.Dm) (L : List (Int × List Fd.Lv × List Fd.Lv)) : Prop where
  num : ∀ i (h : i < D.length), D[i].sq = ((i + 1 : Nat) : Int)
  ok : ∀ m ∈ D, Fd.dOk m = true
  pic : ∀ x ∈ L, ∃ k : Nat, k ≤ D.length ∧ x.1 = (k : Int) ∧ fds 1 [] (D.take k) = x.2.1 ∧ fds 2 [] (D.take k) = x.2.2
  lok : ∀ x ∈ L, Fd.Lok 1 x.2.1 ∧ Fd.Lok 2 x.2.2 ∧ x.2.1.length ≤ 64 ∧ x.2.2.length ≤ 64
  mono : L.Pairwise (fun x y => x.1 ≤ y.1)
  last : ∀ h : 0 < L.length, L[L.length - 1].1 = (D.length : Int)
theorem bl_len (b : Bs) (s : Int) (d : Nat) : (bl b s d).length ≤ d := by
  unfold bl
  rw [lvs_len]
  exact (dpl_len s d _).1
theorem bl_lok {b : Bs} (g : Gb b) (k : Snd b) {s : Int} (hs : s = 1 ∨ s = 2) (d : Nat) : Fd.Lok s (bl b s d) := (Fd.lok_iff _ _).1 (dpl_lok s d _ (g.vb.srt s hs) (k.ok s))
theorem ply_tl {cap meet : Int} (hcf : cfg cap meet = true) {d : Nat} (hd : d ≤ 64) {cs : List Cm} {b : Bs} {D : List Fd.Dm} {L : List (Int × List Fd.Lv × List Fd.Lv)} (h : Ply cap meet d cs b D L) : D.length ≤ 4611686018427387904 → Tl D L ∧ Gb b ∧ Snd b ∧ fds 1 [] D = bl b 1 d ∧ fds 2 [] D = bl b 2 d := by
  induction h with
  | @nil b hf =>
    intro _
    refine ⟨⟨fun i h => by simp at h, by simp, fun x hx => ?_, fun x hx => ?_, by simp, fun h => rfl⟩, fr_gb hf hcf, hf.snd hcf, (fr_bl hf 1 d).symm, (fr_bl hf 2 d).symm⟩
    · rw [List.mem_singleton] at hx
      subst hx
      exact ⟨0, Nat.le_refl _, rfl, rfl, rfl⟩
    · rw [List.mem_singleton] at hx
      subst hx
      exact ⟨Fd.Lok.nil _, Fd.Lok.nil _, by simp, by simp⟩
  | @snoc cs b D L c b' es hp hc hg hs hdd ih =>
    intro hlen
    rw [List.length_append, Fd.nmb_len] at hlen
    obtain ⟨t, gb, sb, f1, f2⟩ := ih (by omega)
    have gb' := (hdd.good hg hc).1
    have sb' := hdd.snd hg hs hc
    have tr := hdd.trg hg hs hc
    have k1 := bl_lok gb sb (.inl rfl) d
    have k2 := bl_lok gb sb (.inr rfl) d
    have k1' := bl_lok gb' sb' (.inl rfl) d
    have k2' := bl_lok gb' sb' (.inr rfl) d
    have hf := tdl_fold (E := es.map fev) k1 k2 k1' k2'
    have hok : ∀ m ∈ tdl (bl b 1 d) (bl b 2 d) b' d (es.map fev), ∀ k : Int, 1 ≤ k → Fd.dOk { m with sq := k } = true := fun m hm k hk => by
      unfold tdl at hm
      rcases List.mem_append.1 hm with hm | hm
      · rcases List.mem_append.1 hm with hm | hm
        · exact trd_ok tr k hk m hm
        · exact chg_ok 1 (.inl rfl) k hk _ _ _ (Nat.le_refl _) (Fd.Lok_iff.1 k1).1 (Fd.Lok_iff.1 k1').1 m hm
      · exact chg_ok 2 (.inr rfl) k hk _ _ _ (Nat.le_refl _) (Fd.Lok_iff.1 k2).1 (Fd.Lok_iff.1 k2').1 m hm
    obtain ⟨T, hT⟩ : ∃ T, tdl (bl b 1 d) (bl b 2 d) b' d (es.map fev) = T := ⟨_, rfl⟩
    rw [hT] at hf hok hlen ⊢
    have hnn : ∀ j (hj : j < T.length), Fd.uw ((D.length : Int) + j + 1) = ((D.length + j + 1 : Nat) : Int) := fun j hj => by
      rw [Fd.uw_eq, Int.emod_eq_of_lt (by omega) (by omega)]
      omega
    have hF1 : fds 1 [] (D ++ Fd.nmb D.length T) = bl b' 1 d := by rw [fds_app, f1, fds_nmb]; exact hf.1
    have hF2 : fds 2 [] (D ++ Fd.nmb D.length T) = bl b' 2 d := by rw [fds_app, f2, fds_nmb]; exact hf.2
    refine ⟨⟨fun i h => ?_, fun m hm => ?_, fun x hx => ?_, fun x hx => ?_, ?_, fun h => ?_⟩, gb', sb', hF1, hF2⟩
    · by_cases hi : i < D.length
      · rw [List.getElem_append_left hi]
        exact t.num i hi
      · rw [List.length_append, Fd.nmb_len] at h
        rw [List.getElem_append_right (by omega), Fd.nmb_get _ _ _ (by omega)]
        show Fd.uw ((D.length : Int) + ((i - D.length : Nat) : Int) + 1) = _
        rw [hnn (i - D.length) (by omega)]
        congr 1
        omega
    · rcases List.mem_append.1 hm with hm | hm
      · exact t.ok m hm
      · obtain ⟨j, hj, rfl⟩ := List.getElem_of_mem hm
        rw [Fd.nmb_len] at hj
        rw [Fd.nmb_get _ _ _ hj]
        exact hok _ (List.getElem_mem hj) _ (by rw [hnn j hj]; omega)
    · rcases List.mem_append.1 hx with hx | hx
      · obtain ⟨k, h1, h2, h3, h4⟩ := t.pic x hx
        refine ⟨k, by rw [List.length_append]; omega, h2, ?_, ?_⟩
        · rw [List.take_append_of_le_length h1]; exact h3
        · rw [List.take_append_of_le_length h1]; exact h4
      · rw [List.mem_singleton] at hx
        subst hx
        refine ⟨D.length + T.length, by rw [List.length_append, Fd.nmb_len]; exact Nat.le_refl _, rfl, ?_, ?_⟩
        · rw [List.take_of_length_le (by rw [List.length_append, Fd.nmb_len]; exact Nat.le_refl _)]; exact hF1
        · rw [List.take_of_length_le (by rw [List.length_append, Fd.nmb_len]; exact Nat.le_refl _)]; exact hF2
    · rcases List.mem_append.1 hx with hx | hx
      · exact t.lok x hx
      · rw [List.mem_singleton] at hx
        subst hx
        exact ⟨k1', k2', Nat.le_trans (bl_len _ _ _) hd, Nat.le_trans (bl_len _ _ _) hd⟩
    · rw [List.pairwise_append]
      refine ⟨t.mono, by simp, fun x hx y hy => ?_⟩
      rw [List.mem_singleton] at hy
      subst hy
      obtain ⟨k, h1, h2, _⟩ := t.pic x hx
      rw [h2]
      show (k : Int) ≤ ((D.length + T.length : Nat) : Int)
      omega
    · simp [List.length_append, Fd.nmb_len]
end Go.Proofs.Ytojmcfkbekodpaa
