/-
  Double entry, plainly.
-/
import Derived.Test.YtphhllppgelceaaGh
namespace Go.Proofs.Ytphhllppgelceaa.Ac
open Go.RowKit Go.Deep Go.Maps Go.Proofs.Ytphhllppgelceaa.MonM
set_option linter.unusedVariables false
set_option linter.unusedSimpArgs false
/-- what an entry brings to an account. -/
def brg (e : En) (x : Int × Int) : Int := (if (e.tm, e.tk) = x then e.am else 0) - (if (e.fm, e.fk) = x then e.am else 0)
/-- what went to an account less what went from it. -/
def bal : List En → Int × Int → Int
  | [], _ => 0
  | e :: es, x => brg e x + bal es x
theorem bal_snoc (es : List En) (e : En) (x : Int × Int) : bal (es ++ [e]) x = bal es x + brg e x := by
  induction es with
  | nil => simp [bal]
  | cons a es ih => rw [List.cons_append, bal, bal, ih]; omega
/-- an account that money may go from. -/
def AcF (s : Ls) (x : Int × Int) : Prop := x = (0, 3) ∨ x.2 = 1 ∧ U32 x.1 ∧ (s.f (x.1, 1)).isSome = true
/-- one that money may go to. -/
def AcT (s : Ls) (x : Int × Int) : Prop := x = (0, 2) ∨ AcF s x
structure EnOk (s : Ls) (e : En) : Prop where
  pos : 0 < e.am
  le : e.am ≤ 9223372036854775808
  fr : AcF s (e.fm, e.fk)
  ta : AcT s (e.tm, e.tk)
/-- each balance is what its entries make. -/
structure Db (s : Ls) : Prop where
  b : ∀ x, (s.f x).getD 0 = bal s.es x
  en : ∀ e ∈ s.es, EnOk s e
theorem brg_le {s : Ls} {e : En} (h : EnOk s e) (x : Int × Int) : -9223372036854775808 ≤ brg e x ∧ brg e x ≤ 9223372036854775808 := by
  have h1 := h.pos
  have h2 := h.le
  unfold brg
  split <;> split <;> omega
theorem bal_le {s : Ls} : ∀ (es : List En) (x : Int × Int), (∀ e ∈ es, EnOk s e) → -(es.length * 9223372036854775808 : Int) ≤ bal es x ∧ bal es x ≤ es.length * 9223372036854775808
  | [], x, _ => by simp [bal]
  | e :: es, x, h => by
    have h1 := bal_le es x (fun y hy => h y (List.mem_cons_of_mem _ hy))
    have h2 := brg_le (h e List.mem_cons_self) x
    rw [bal, List.length_cons]
    omega
theorem maddV_eq {m n : Int} (h0 : -170141183460469231731687303715884105727 ≤ m + n) (h1 : m + n ≤ 170141183460469231731687303715884105727) : maddV m n = m + n := if_pos ⟨h0, h1⟩
theorem AcF.mono {s s' : Ls} (h : ∀ m, (s.f (m, 1)).isSome = true → (s'.f (m, 1)).isSome = true) {x : Int × Int} (hx : AcF s x) : AcF s' x := by
  rcases hx with hx | ⟨a, b, c⟩
  · exact .inl hx
  · exact .inr ⟨a, b, h _ c⟩
theorem EnOk.mono {s s' : Ls} (h : ∀ m, (s.f (m, 1)).isSome = true → (s'.f (m, 1)).isSome = true) {e : En} (hx : EnOk s e) : EnOk s' e :=
  ⟨hx.pos, hx.le, hx.fr.mono h, by rcases hx.ta with hx | hx; exact .inl hx; exact .inr (hx.mono h)⟩
theorem upd_up {f : Int × Int → Option Int} {a x : Int × Int} {v : Int} (h : (f x).isSome = true) : (upd f a v x).isSome = true := by
  unfold upd
  split
  · rfl
  · exact h
theorem ent_up (s : Ls) (a b : Int × Int) (v m : Int) (h : (s.f (m, 1)).isSome = true) : ((ent s a b v).f (m, 1)).isSome = true := by
  unfold ent
  split
  · exact h
  · exact upd_up (upd_up h)
theorem ent_len (s : Ls) (a b : Int × Int) (v : Int) : (ent s a b v).es.length ≤ s.es.length + 1 := by
  unfold ent
  split
  · omega
  · simp
theorem Db.ent {s : Ls} (h : Db s) (a b : Int × Int) (v : Int) (h0 : 0 ≤ v) (h1 : v ≤ 9223372036854775808) (hl : s.es.length ≤ 1000000000000) (hf : AcF s a) (ht : AcT s b) : Db (Ac.ent s a b v) := by
  by_cases hv : v = 0
  · have e : Ac.ent s a b v = s := if_pos hv
    rw [e]
    exact h
  · have e : Ac.ent s a b v = { s with es := s.es ++ [⟨a.1, a.2, b.1, b.2, v⟩], f := upd (upd s.f a (maddV ((s.f a).getD 0) (-v))) b (maddV ((upd s.f a (maddV ((s.f a).getD 0) (-v)) b).getD 0) v) } := if_neg hv
    have up := ent_up s a b v
    rw [e] at up ⊢
    have ba := bal_le s.es a h.en
    have bb := bal_le s.es b h.en
    have ea : maddV ((s.f a).getD 0) (-v) = bal s.es a - v := by
      rw [h.b a, maddV_eq (by omega) (by omega)]
      omega
    refine ⟨fun x => ?_, fun y hy => ?_⟩
    · show (upd (upd s.f a (maddV ((s.f a).getD 0) (-v))) b (maddV ((upd s.f a (maddV ((s.f a).getD 0) (-v)) b).getD 0) v) x).getD 0 = bal (s.es ++ [⟨a.1, a.2, b.1, b.2, v⟩]) x
      rw [bal_snoc, ea]
      have eb : brg ⟨a.1, a.2, b.1, b.2, v⟩ x = (if b = x then v else 0) - (if a = x then v else 0) := rfl
      rw [eb]
      have f1 : ∀ y, (upd s.f a (bal s.es a - v) y).getD 0 = bal s.es y - (if a = y then v else 0) := by
        intro y
        unfold upd
        by_cases e1 : y = a
        · rw [if_pos e1, e1, if_pos rfl]; rfl
        · rw [if_neg e1, if_neg (fun h => e1 h.symm), h.b y]; omega
      have ebv : maddV ((upd s.f a (bal s.es a - v) b).getD 0) v = bal s.es b - (if a = b then v else 0) + v := by
        rw [f1 b]
        have : -v ≤ -(if a = b then v else 0) ∧ -(if a = b then v else 0) ≤ 0 := by split <;> omega
        rw [maddV_eq (by omega) (by omega)]
      rw [ebv]
      by_cases e1 : x = b
      · subst e1
        rw [upd_same, if_pos rfl]
        show bal s.es x - _ + v = _
        omega
      · rw [upd_other _ _ e1, f1 x, show (if b = x then v else 0) = 0 from if_neg (fun h => e1 h.symm)]
        omega
    · rcases List.mem_append.1 hy with hy | hy
      · exact (h.en y hy).mono up
      · simp at hy
        subst hy
        exact ⟨by show 0 < v; omega, h1, hf.mono up, by rcases ht with ht | ht; exact .inl ht; exact .inr (ht.mono up)⟩
/-- a sum over accounts. -/
def tota (l : List (Int × Int)) (h : Int × Int → Int) : Int := (l.map h).sum
theorem tota_cons (a : Int × Int) (l : List (Int × Int)) (h : Int × Int → Int) : tota (a :: l) h = h a + tota l h := by simp [tota]
theorem tota_snoc (l : List (Int × Int)) (a : Int × Int) (h : Int × Int → Int) : tota (l ++ [a]) h = tota l h + h a := by
  induction l with
  | nil => simp [tota]
  | cons x l ih => rw [List.cons_append, tota_cons, tota_cons, ih]; omega
theorem tota_add (l : List (Int × Int)) (h h' : Int × Int → Int) : tota l (fun x => h x + h' x) = tota l h + tota l h' := by
  induction l with
  | nil => rfl
  | cons x l ih => rw [tota_cons, tota_cons, tota_cons, ih]; omega
theorem tota_sub (l : List (Int × Int)) (h h' : Int × Int → Int) : tota l (fun x => h x - h' x) = tota l h - tota l h' := by
  induction l with
  | nil => rfl
  | cons x l ih => rw [tota_cons, tota_cons, tota_cons, ih]; omega
theorem tota_none {l : List (Int × Int)} {y : Int × Int} (hy : y ∉ l) (v : Int) : tota l (fun x => if y = x then v else 0) = 0 := by
  induction l with
  | nil => rfl
  | cons x l ih =>
    rw [tota_cons, if_neg (fun e => hy (by rw [e]; exact List.mem_cons_self)), ih (fun e => hy (List.mem_cons_of_mem _ e))]
    rfl
theorem tota_one {l : List (Int × Int)} (hn : l.Nodup) {y : Int × Int} (hy : y ∈ l) (v : Int) : tota l (fun x => if y = x then v else 0) = v := by
  induction l with
  | nil => cases hy
  | cons x l ih =>
    rw [List.nodup_cons] at hn
    rw [tota_cons]
    by_cases e : y = x
    · subst e
      rw [if_pos rfl, tota_none hn.1]
      omega
    · rw [if_neg e, ih hn.2 (by rcases List.mem_cons.1 hy with h | h; exact absurd h e; exact h)]
      omega
/-- all accounts. -/
def alls (ms : List Int) : List (Int × Int) := (0, 2) :: (0, 3) :: ms.map fun m => (m, 1)
theorem alls_nd {ms : List Int} (h : ms.Nodup) : (alls ms).Nodup := by
  unfold alls
  rw [List.nodup_cons, List.nodup_cons]
  refine ⟨fun e => ?_, fun e => ?_, ?_⟩
  · rcases List.mem_cons.1 e with e | e
    · exact absurd (congrArg Prod.snd e) (by decide)
    · obtain ⟨m, _, e⟩ := List.mem_map.1 e
      exact absurd (show (1 : Int) = 2 from congrArg Prod.snd e) (by decide)
  · obtain ⟨m, _, e⟩ := List.mem_map.1 e
    exact absurd (show (1 : Int) = 3 from congrArg Prod.snd e) (by decide)
  · induction ms with
    | nil => exact List.nodup_nil
    | cons a ms ih =>
      rw [List.nodup_cons] at h
      rw [List.map_cons, List.nodup_cons]
      refine ⟨fun e => ?_, ih h.2⟩
      obtain ⟨m, hm, e⟩ := List.mem_map.1 e
      have e2 : m = a := congrArg Prod.fst e
      rw [e2] at hm
      exact h.1 hm
theorem mem_alls {s : Ls} {ms : List Int} (h : Mb s ms) {x : Int × Int} (hx : AcT s x) : x ∈ alls ms := by
  unfold alls
  rcases hx with hx | hx | ⟨a, b, c⟩
  · rw [hx]; exact List.mem_cons_self
  · rw [hx]; exact List.mem_cons_of_mem _ List.mem_cons_self
  · refine List.mem_cons_of_mem _ (List.mem_cons_of_mem _ (List.mem_map.2 ⟨x.1, (h.iff _ b).2 c, ?_⟩))
    rw [← a]
theorem Db.sum {s : Ls} (h : Db s) {ms : List Int} (hm : Mb s ms) : tota (alls ms) (fun x => (s.f x).getD 0) = 0 := by
  have e0 : tota (alls ms) (fun x => (s.f x).getD 0) = tota (alls ms) (fun x => bal s.es x) := by
    congr 1
    funext x
    exact h.b x
  rw [e0]
  have key : ∀ es : List En, (∀ e ∈ es, EnOk s e) → tota (alls ms) (fun x => bal es x) = 0 := by
    intro es
    induction es with
    | nil =>
      intro _
      have : ∀ l : List (Int × Int), tota l (fun _ => 0) = 0 := fun l => by
        induction l with
        | nil => rfl
        | cons x l ih => rw [tota_cons, ih]; rfl
      exact this _
    | cons e es ih =>
      intro he
      have h1 := ih (fun y hy => he y (List.mem_cons_of_mem _ hy))
      have h2 := he e List.mem_cons_self
      show tota (alls ms) (fun x => brg e x + bal es x) = 0
      rw [tota_add, h1]
      show tota (alls ms) (fun x => (if (e.tm, e.tk) = x then e.am else 0) - (if (e.fm, e.fk) = x then e.am else 0)) + 0 = 0
      rw [tota_sub, tota_one (alls_nd hm.nd) (mem_alls hm h2.ta), tota_one (alls_nd hm.nd) (mem_alls hm (.inr h2.fr))]
      omega
  exact key _ h.en
theorem Nw.db {s : Ls} {ma ta bb : Int} (h : Nw s ma ta bb) : Db s :=
  ⟨fun x => by
    rw [h.es]
    cases e : s.f x with
    | none => rfl
    | some v => exact (h.f x v e).1, fun e he => by rw [h.es] at he; cases he⟩
theorem Db.book {s s' : Ls} {d : De} (h : Db s) (hd : DeOk d) (ht : Tf s) (hb : Bkd s d s') (hl : s.es.length ≤ 900000000000) : Db s' := by
  obtain ⟨o1, o2⟩ := bkc_open hb.bk
  have H := bkc_ok hb.bk
  have hv0 : 0 ≤ d.pr * d.qt := Int.mul_nonneg H.p0 (by have := H.q0; omega)
  have hv1 : d.pr * d.qt ≤ 262144 * 4294967296 := Int.mul_le_mul (by have := H.p1; omega) (by have := H.q1; omega) (by have := H.q0; omega) (by omega)
  have hva : absI (d.pr * d.qt) = d.pr * d.qt := absI_pos hv0
  have fe : ∀ (t : Ls), t.ma = s.ma → t.ta = s.ta → t.bb = s.bb → ∀ tk, 0 ≤ fee t (d.pr * d.qt) tk ∧ fee t (d.pr * d.qt) tk ≤ 9223372036854775808 := by
    intro t e1 e2 e3 tk
    unfold fee
    have hr : 0 ≤ (if tk = true then t.ta else t.ma) ∧ (if tk = true then t.ta else t.ma) ≤ t.bb := by
      rw [e1, e2, e3]
      split
      · exact ⟨ht.t0, ht.tb⟩
      · exact ⟨ht.m0, ht.mb⟩
    obtain ⟨_, _, p0, p1⟩ := ptq_le (d.pr * d.qt) (if tk = true then t.ta else t.ma) t.bb 1 hr.1 hr.2 (by rw [e3]; exact ht.b0)
    unfold ptn
    rw [if_neg (by omega)]
    omega
  have tf : ∀ (t : Ls) a b v, (Ac.ent t a b v).ma = t.ma ∧ (Ac.ent t a b v).ta = t.ta ∧ (Ac.ent t a b v).bb = t.bb := by
    intro t a b v
    unfold Ac.ent
    split <;> exact ⟨rfl, rfl, rfl⟩
  rw [hb.st]
  obtain ⟨s1, hs1⟩ : ∃ t, Ac.ent s (d.bu, 1) (d.se, 1) (d.pr * d.qt) = t := ⟨_, rfl⟩
  have d1 : Db s1 := by rw [← hs1]; exact h.ent _ _ _ hv0 (by omega) (by omega) (.inr ⟨rfl, hd.bu, o1⟩) (.inr (.inr ⟨rfl, hd.se, o2⟩))
  have l1 : s1.es.length ≤ s.es.length + 1 := by rw [← hs1]; exact ent_len _ _ _ _
  have t1 : s1.ma = s.ma ∧ s1.ta = s.ta ∧ s1.bb = s.bb := by rw [← hs1]; exact tf _ _ _ _
  have u1 : ∀ m, (s.f (m, 1)).isSome = true → (s1.f (m, 1)).isSome = true := fun m hm => by rw [← hs1]; exact ent_up _ _ _ _ _ hm
  have f1 := fe s1 t1.1 t1.2.1 t1.2.2 (d.ta == 1)
  obtain ⟨s2, hs2⟩ : ∃ t, Ac.ent s1 (d.bu, 1) (0, 2) (fee s1 (d.pr * d.qt) (d.ta == 1)) = t := ⟨_, rfl⟩
  have d2 : Db s2 := by rw [← hs2]; exact d1.ent _ _ _ f1.1 f1.2 (by omega) (.inr ⟨rfl, hd.bu, u1 _ o1⟩) (.inl rfl)
  have l2 : s2.es.length ≤ s1.es.length + 1 := by rw [← hs2]; exact ent_len _ _ _ _
  have t2 : s2.ma = s.ma ∧ s2.ta = s.ta ∧ s2.bb = s.bb := by have := tf s1 (d.bu, 1) (0, 2) (fee s1 (d.pr * d.qt) (d.ta == 1)); rw [hs2] at this; exact ⟨this.1.trans t1.1, this.2.1.trans t1.2.1, this.2.2.trans t1.2.2⟩
  have u2 : ∀ m, (s.f (m, 1)).isSome = true → (s2.f (m, 1)).isSome = true := fun m hm => by rw [← hs2]; exact ent_up _ _ _ _ _ (u1 m hm)
  have f2 := fe s2 t2.1 t2.2.1 t2.2.2 (d.ta == 2)
  have d3 : Db (Ac.ent s2 (d.se, 1) (0, 2) (fee s2 (d.pr * d.qt) (d.ta == 2))) := d2.ent _ _ _ f2.1 f2.2 (by omega) (.inr ⟨rfl, hd.se, u2 _ o2⟩) (.inl rfl)
  have e : bkd s d (bkA s d) (bkC s d) = { Ac.ent s2 (d.se, 1) (0, 2) (fee s2 (d.pr * d.qt) (d.ta == 2)) with g := gupd (gupd (Ac.ent s2 (d.se, 1) (0, 2) (fee s2 (d.pr * d.qt) (d.ta == 2))).g d.bu d.it (bkA s d)) d.se d.it (bkC s d) } := by
    unfold bkd
    simp only
    rw [hs1, hs2]
  rw [e]
  exact ⟨d3.b, fun y hy => let h := d3.en y hy; ⟨h.pos, h.le, h.fr, h.ta⟩⟩
end Go.Proofs.Ytphhllppgelceaa.Ac
namespace Go.Proofs.Ytphhllppgelceaa.Ac
open Go.RowKit Go.Deep Go.Maps Go.Proofs.Ytphhllppgelceaa.MonM
set_option linter.unusedVariables false
set_option linter.unusedSimpArgs false
/-- the deal is booked. -/
def Acc (s : Ls) (d : De) : Prop := bkc s d = 0 ∧ absI (bkA s d).qt ≤ 4294967295 ∧ absI (bkC s d).qt ≤ 4294967295
instance (s : Ls) (d : De) : Decidable (Acc s d) := by unfold Acc; infer_instance
/-- the ledger behind a deal, booked or refused. -/
def stp (s : Ls) (d : De) : Ls := if Acc s d then bkd s d (bkA s d) (bkC s d) else s
theorem stp_of {s s' : Ls} {d : De} {r : Int} (h : r ≠ 0 ∧ s' = s ∧ Rf s d ∨ r = 0 ∧ Bkd s d s') : s' = stp s d := by
  unfold stp
  rcases h with ⟨_, h2, h3⟩ | ⟨_, h2⟩
  · rw [if_neg, h2]
    rintro ⟨a, b, c⟩
    rcases h3 with h | h | h
    · exact h a
    · omega
    · omega
  · rw [if_pos ⟨h2.bk, h2.oa, h2.oc⟩, h2.st]
def run (s : Ls) (l : List De) : Ls := l.foldl stp s
/-- two ledgers agree as far as an instrument goes. -/
structure Sm (i : Int) (s t : Ls) : Prop where
  ma : s.ma = t.ma
  ta : s.ta = t.ta
  bb : s.bb = t.bb
  f : ∀ m, (s.f (m, 1)).isSome = (t.f (m, 1)).isSome
  g : ∀ m, s.g m i = t.g m i
theorem Sm.refl (i : Int) (s : Ls) : Sm i s s := ⟨rfl, rfl, rfl, fun _ => rfl, fun _ => rfl⟩
theorem Sm.symm {i : Int} {s t : Ls} (h : Sm i s t) : Sm i t s := ⟨h.ma.symm, h.ta.symm, h.bb.symm, fun m => (h.f m).symm, fun m => (h.g m).symm⟩
theorem Sm.trans {i : Int} {s t u : Ls} (h : Sm i s t) (k : Sm i t u) : Sm i s u := ⟨h.ma.trans k.ma, h.ta.trans k.ta, h.bb.trans k.bb, fun m => (h.f m).trans (k.f m), fun m => (h.g m).trans (k.g m)⟩
theorem Sm.bkc {s t : Ls} {d : De} (h : Sm d.it s t) : bkc s d = bkc t d := by unfold Ac.bkc; rw [h.f, h.f]
theorem Sm.bkA {s t : Ls} {d : De} (h : Sm d.it s t) : bkA s d = bkA t d := by unfold Ac.bkA; rw [h.g]
theorem Sm.bkC {s t : Ls} {d : De} (h : Sm d.it s t) : bkC s d = bkC t d := by unfold Ac.bkC; rw [h.bkA, h.g]
theorem Sm.acc {s t : Ls} {d : De} (h : Sm d.it s t) : Acc s d ↔ Acc t d := by unfold Acc; rw [h.bkc, h.bkA, h.bkC]
/-- the entry, if any. -/
def en1 (a b : Int × Int) (v : Int) : List En := if v = 0 then [] else [⟨a.1, a.2, b.1, b.2, v⟩]
theorem ent_es (s : Ls) (a b : Int × Int) (v : Int) : (ent s a b v).es = s.es ++ en1 a b v := by
  unfold ent en1
  split
  · simp
  · rfl
theorem ent_tf (s : Ls) (a b : Int × Int) (v : Int) : (ent s a b v).ma = s.ma ∧ (ent s a b v).ta = s.ta ∧ (ent s a b v).bb = s.bb := by
  unfold ent
  split <;> exact ⟨rfl, rfl, rfl⟩
theorem ent_dom (s : Ls) (a b : Int × Int) (v m : Int) (ha : (m, 1) = a → (s.f (m, 1)).isSome = true) (hb : (m, 1) = b → (s.f (m, 1)).isSome = true) : ((ent s a b v).f (m, 1)).isSome = (s.f (m, 1)).isSome := by
  unfold ent
  split
  · rfl
  · show (upd (upd s.f a _) b _ (m, 1)).isSome = _
    rw [upd_some, upd_some ha]
    intro e
    rw [upd_some ha]
    exact hb e
theorem fee_cong {s t : Ls} (h1 : s.ma = t.ma) (h2 : s.ta = t.ta) (h3 : s.bb = t.bb) (v : Int) (k : Bool) : fee s v k = fee t v k := by unfold fee; rw [h1, h2, h3]
/-- what a booked deal enters. -/
def ens (s : Ls) (d : De) : List En := en1 (d.bu, 1) (d.se, 1) (d.pr * d.qt) ++ (en1 (d.bu, 1) (0, 2) (fee s (d.pr * d.qt) (d.ta == 1)) ++ en1 (d.se, 1) (0, 2) (fee s (d.pr * d.qt) (d.ta == 2)))
theorem Sm.ens {i : Int} {s t : Ls} (h : Sm i s t) (d : De) : ens s d = ens t d := by unfold Ac.ens; rw [fee_cong h.ma h.ta h.bb, fee_cong h.ma h.ta h.bb]
theorem bkd_all (s : Ls) (d : De) (A C : Po) (hc : bkc s d = 0) : (bkd s d A C).es = s.es ++ ens s d ∧ (bkd s d A C).ma = s.ma ∧ (bkd s d A C).ta = s.ta ∧ (bkd s d A C).bb = s.bb ∧ (∀ m, ((bkd s d A C).f (m, 1)).isSome = (s.f (m, 1)).isSome) ∧ (bkd s d A C).g = gupd (gupd s.g d.bu d.it A) d.se d.it C := by
  obtain ⟨o1, o2⟩ := bkc_open hc
  obtain ⟨s1, hs1⟩ : ∃ t, ent s (d.bu, 1) (d.se, 1) (d.pr * d.qt) = t := ⟨_, rfl⟩
  have t1 := ent_tf s (d.bu, 1) (d.se, 1) (d.pr * d.qt)
  have e1 := ent_es s (d.bu, 1) (d.se, 1) (d.pr * d.qt)
  have g1 := ent_g s (d.bu, 1) (d.se, 1) (d.pr * d.qt)
  have f1 : ∀ m, (s1.f (m, 1)).isSome = (s.f (m, 1)).isSome := fun m => by rw [← hs1]; exact ent_dom _ _ _ _ _ (fun e => by rw [e]; exact o1) (fun e => by rw [e]; exact o2)
  rw [hs1] at t1 e1 g1
  have k1 := fee_cong (s := s1) (t := s) t1.1 t1.2.1 t1.2.2 (d.pr * d.qt) (d.ta == 1)
  obtain ⟨s2, hs2⟩ : ∃ t, ent s1 (d.bu, 1) (0, 2) (fee s1 (d.pr * d.qt) (d.ta == 1)) = t := ⟨_, rfl⟩
  have t2 := ent_tf s1 (d.bu, 1) (0, 2) (fee s1 (d.pr * d.qt) (d.ta == 1))
  have e2 := ent_es s1 (d.bu, 1) (0, 2) (fee s1 (d.pr * d.qt) (d.ta == 1))
  have g2 := ent_g s1 (d.bu, 1) (0, 2) (fee s1 (d.pr * d.qt) (d.ta == 1))
  have no : ∀ m : Int, (m, (1 : Int)) = (0, 2) → False := fun m e => absurd (show (1 : Int) = 2 from congrArg Prod.snd e) (by decide)
  have f2 : ∀ m, (s2.f (m, 1)).isSome = (s.f (m, 1)).isSome := fun m => by rw [← hs2, ← f1 m]; exact ent_dom _ _ _ _ _ (fun e => by rw [e, f1]; exact o1) (fun e => (no _ e).elim)
  rw [hs2] at t2 e2 g2
  have k2 := fee_cong (s := s2) (t := s) (t2.1.trans t1.1) (t2.2.1.trans t1.2.1) (t2.2.2.trans t1.2.2) (d.pr * d.qt) (d.ta == 2)
  have t3 := ent_tf s2 (d.se, 1) (0, 2) (fee s2 (d.pr * d.qt) (d.ta == 2))
  have e3 := ent_es s2 (d.se, 1) (0, 2) (fee s2 (d.pr * d.qt) (d.ta == 2))
  have g3 := ent_g s2 (d.se, 1) (0, 2) (fee s2 (d.pr * d.qt) (d.ta == 2))
  have f3 : ∀ m, ((ent s2 (d.se, 1) (0, 2) (fee s2 (d.pr * d.qt) (d.ta == 2))).f (m, 1)).isSome = (s.f (m, 1)).isSome := fun m => by rw [← f2 m]; exact ent_dom _ _ _ _ _ (fun e => by rw [e, f2]; exact o2) (fun e => (no _ e).elim)
  unfold bkd
  simp only
  rw [hs1, hs2]
  refine ⟨?_, t3.1.trans (t2.1.trans t1.1), t3.2.1.trans (t2.2.1.trans t1.2.1), t3.2.2.trans (t2.2.2.trans t1.2.2), f3, ?_⟩
  · rw [e3, e2, e1, k1, k2]
    unfold ens
    simp
  · rw [g3, g2, g1]
theorem Sm.stp {s t : Ls} {d : De} (h : Sm d.it s t) : Sm d.it (stp s d) (stp t d) := by
  unfold Ac.stp
  by_cases ha : Acc s d
  · have hb := h.acc.1 ha
    rw [if_pos ha, if_pos hb]
    obtain ⟨_, a1, a2, a3, a4, a5⟩ := bkd_all s d (Ac.bkA s d) (Ac.bkC s d) ha.1
    obtain ⟨_, b1, b2, b3, b4, b5⟩ := bkd_all t d (Ac.bkA t d) (Ac.bkC t d) hb.1
    refine ⟨by rw [a1, b1]; exact h.ma, by rw [a2, b2]; exact h.ta, by rw [a3, b3]; exact h.bb, fun m => by rw [a4, b4]; exact h.f m, fun m => ?_⟩
    rw [a5, b5, h.bkA, h.bkC]
    unfold gupd
    split
    · rfl
    · split
      · rfl
      · exact h.g m
  · rw [if_neg ha, if_neg (fun e => ha (h.acc.2 e))]
    exact h
theorem stp_skip {i : Int} {d : De} (hd : d.it ≠ i) (s : Ls) : Sm i (stp s d) s := by
  unfold stp
  by_cases ha : Acc s d
  · rw [if_pos ha]
    obtain ⟨_, a1, a2, a3, a4, a5⟩ := bkd_all s d (bkA s d) (bkC s d) ha.1
    refine ⟨a1, a2, a3, a4, fun m => ?_⟩
    rw [a5]
    unfold gupd
    rw [if_neg (fun e => hd e.2.symm), if_neg (fun e => hd e.2.symm)]
  · rw [if_neg ha]
    exact Sm.refl _ _
/-- an instrument's deals. -/
def flt (i : Int) (l : List De) : List De := l.filter fun d => decide (d.it = i)
theorem run_flt {i : Int} : ∀ (l : List De) {s t : Ls}, Sm i s t → Sm i (run s l) (run t (flt i l))
  | [], s, t, h => h
  | d :: l, s, t, h => by
    by_cases e : d.it = i
    · have : flt i (d :: l) = d :: flt i l := by unfold flt; rw [List.filter_cons_of_pos (by simpa using e)]
      rw [this]
      subst e
      exact run_flt l h.stp
    · have : flt i (d :: l) = flt i l := by unfold flt; rw [List.filter_cons_of_neg (by simpa using e)]
      rw [this]
      exact run_flt l ((stp_skip e s).trans h)
theorem run_sm {i : Int} {l l' : List De} {s t : Ls} (h : Sm i s t) (e : flt i l = flt i l') : Sm i (run s l) (run t l') := by
  have h1 := run_flt l h
  rw [e] at h1
  exact h1.trans (run_flt l' (Sm.refl i t)).symm
/-- what an instrument's deals bring, by a measure of entries. -/
def con (φ : List En → Int) (i : Int) : Ls → List De → Int
  | _, [] => 0
  | s, d :: l => (if d.it = i then (if Acc s d then φ (ens s d) else 0) else 0) + con φ i (stp s d) l
theorem con_flt (φ : List En → Int) {i : Int} : ∀ (l : List De) {s t : Ls}, Sm i s t → con φ i s l = con φ i t (flt i l)
  | [], s, t, h => rfl
  | d :: l, s, t, h => by
    by_cases e : d.it = i
    · have : flt i (d :: l) = d :: flt i l := by unfold flt; rw [List.filter_cons_of_pos (by simpa using e)]
      rw [this, con, con, if_pos e, if_pos e]
      subst e
      rw [con_flt φ l h.stp, h.ens d]
      by_cases ha : Acc s d
      · rw [if_pos ha, if_pos (h.acc.1 ha)]
      · rw [if_neg ha, if_neg (fun e => ha (h.acc.2 e))]
    · have : flt i (d :: l) = flt i l := by unfold flt; rw [List.filter_cons_of_neg (by simpa using e)]
      rw [this, con, if_neg e, con_flt φ l ((stp_skip e s).trans h)]
      omega
theorem tot_add (l : List Int) (h h' : Int → Int) : tot l (fun x => h x + h' x) = tot l h + tot l h' := by
  induction l with
  | nil => rfl
  | cons x l ih => rw [tot_cons, tot_cons, tot_cons, ih]; omega
theorem tot_none {l : List Int} {y : Int} (hy : y ∉ l) (v : Int) : tot l (fun x => if y = x then v else 0) = 0 := by
  induction l with
  | nil => rfl
  | cons x l ih =>
    rw [tot_cons, if_neg (fun e => hy (by rw [e]; exact List.mem_cons_self)), ih (fun e => hy (List.mem_cons_of_mem _ e))]
    rfl
theorem tot_one {l : List Int} (hn : l.Nodup) {y : Int} (hy : y ∈ l) (v : Int) : tot l (fun x => if y = x then v else 0) = v := by
  induction l with
  | nil => cases hy
  | cons x l ih =>
    rw [List.nodup_cons] at hn
    rw [tot_cons]
    by_cases e : y = x
    · subst e
      rw [if_pos rfl, tot_none hn.1]
      omega
    · rw [if_neg e, ih hn.2 (by rcases List.mem_cons.1 hy with h | h; exact absurd h e; exact h)]
      omega
/-- a measure of all entries is the sum over instruments of what their deals bring. -/
theorem run_con (φ : List En → Int) (hφ : ∀ a b, φ (a ++ b) = φ a + φ b) {I : List Int} (hn : I.Nodup) : ∀ (l : List De) (s : Ls), (∀ d ∈ l, d.it ∈ I) → φ (run s l).es = φ s.es + tot I (fun i => con φ i s l)
  | [], s, _ => by
    show φ s.es = φ s.es + tot I (fun _ => 0)
    rw [tot_zero]
    omega
  | d :: l, s, h => by
    have h1 := run_con φ hφ hn l (stp s d) (fun x hx => h x (List.mem_cons_of_mem _ hx))
    show φ (run (stp s d) l).es = φ s.es + tot I (fun i => (if d.it = i then (if Acc s d then φ (ens s d) else 0) else 0) + con φ i (stp s d) l)
    rw [h1, tot_add, tot_one hn (h d List.mem_cons_self)]
    have h2 : φ (stp s d).es = φ s.es + (if Acc s d then φ (ens s d) else 0) := by
      unfold stp
      by_cases ha : Acc s d
      · rw [if_pos ha, if_pos ha, (bkd_all s d _ _ ha.1).1, hφ]
      · rw [if_neg ha, if_neg ha]
        omega
    rw [h2]
    omega
/-- instrument behind instrument. -/
def ord (I : List Int) (l : List De) : List De := I.flatMap fun i => flt i l
theorem flt_flt (i j : Int) (l : List De) : flt i (flt j l) = if i = j then flt j l else [] := by
  unfold flt
  rw [List.filter_filter]
  by_cases e : i = j
  · subst e
    rw [if_pos rfl]
    congr 1
    funext d
    simp
  · rw [if_neg e, List.filter_eq_nil_iff]
    intro d _
    simp
    omega
theorem flt_ord {I : List Int} (hn : I.Nodup) (l : List De) (i : Int) : flt i (ord I l) = if i ∈ I then flt i l else [] := by
  induction I with
  | nil => rfl
  | cons j I ih =>
    rw [List.nodup_cons] at hn
    have e : flt i (ord (j :: I) l) = flt i (flt j l) ++ flt i (ord I l) := by
      unfold ord flt
      rw [List.flatMap_cons, List.filter_append]
    rw [e, flt_flt, ih hn.2]
    by_cases h : i = j
    · subst h
      rw [if_pos rfl, if_neg hn.1, if_pos List.mem_cons_self, List.append_nil]
    · rw [if_neg h, List.nil_append]
      by_cases h2 : i ∈ I
      · rw [if_pos h2, if_pos (List.mem_cons_of_mem _ h2)]
      · rw [if_neg h2, if_neg (fun e => by rcases List.mem_cons.1 e with e | e; exact h e; exact h2 e)]
theorem mem_ord {I : List Int} {l : List De} {d : De} (h : d ∈ ord I l) : d.it ∈ I := by
  obtain ⟨i, hi, hd⟩ := List.mem_flatMap.1 h
  have := (List.mem_filter.1 hd).2
  have e : d.it = i := of_decide_eq_true this
  rw [e]
  exact hi
/-- in turns or one instrument behind the other: the same positions, and the same by any measure of entries. -/
theorem apart {I : List Int} (hn : I.Nodup) {l : List De} (hl : ∀ d ∈ l, d.it ∈ I) {s t : Ls} (h : ∀ i, Sm i s t) (he : s.es = t.es) :
    (∀ i, i ∈ I → ∀ m, (run s l).g m i = (run t (ord I l)).g m i) ∧ (∀ φ : List En → Int, (∀ a b, φ (a ++ b) = φ a + φ b) → φ (run s l).es = φ (run t (ord I l)).es) := by
  have fo : ∀ i, i ∈ I → flt i l = flt i (ord I l) := fun i hi => by rw [flt_ord hn, if_pos hi]
  refine ⟨fun i hi m => (run_sm (h i) (fo i hi)).g m, fun φ hφ => ?_⟩
  rw [run_con φ hφ hn l s hl, run_con φ hφ hn (ord I l) t (fun d hd => mem_ord hd), he]
  have key : ∀ J : List Int, (∀ i ∈ J, i ∈ I) → tot J (fun i => con φ i s l) = tot J (fun i => con φ i t (ord I l)) := by
    intro J
    induction J with
    | nil => intro _; rfl
    | cons i J ih =>
      intro hJ
      have hi := hJ i List.mem_cons_self
      rw [tot_cons, tot_cons, ih (fun x hx => hJ x (List.mem_cons_of_mem _ hx)), con_flt φ l (h i), con_flt φ (ord I l) (Sm.refl i t), ← fo i hi]
  rw [key I (fun _ h => h)]
theorem bal_app (a b : List En) (x : Int × Int) : bal (a ++ b) x = bal a x + bal b x := by
  induction a with
  | nil => simp [bal]
  | cons e a ih => rw [List.cons_append, bal, bal, ih]; omega
theorem apart_bal {I : List Int} (hn : I.Nodup) {l : List De} (hl : ∀ d ∈ l, d.it ∈ I) {s t : Ls} (h : ∀ i, Sm i s t) (he : s.es = t.es) (x : Int × Int) : bal (run s l).es x = bal (run t (ord I l)).es x :=
  (apart hn hl h he).2 (fun es => bal es x) (fun a b => bal_app a b x)
theorem apart_len {I : List Int} (hn : I.Nodup) {l : List De} (hl : ∀ d ∈ l, d.it ∈ I) {s t : Ls} (h : ∀ i, Sm i s t) (he : s.es = t.es) : (run s l).es.length = (run t (ord I l)).es.length := by
  have := (apart hn hl h he).2 (fun es => (es.length : Int)) (fun a b => by rw [List.length_append]; omega)
  exact Int.ofNat.inj this
end Go.Proofs.Ytphhllppgelceaa.Ac
namespace Go.Proofs.Ytphhllppgelceaa.Ac
open Go.RowKit Go.Deep Go.Maps Go.Proofs.Ytphhllppgelceaa.MonM
set_option linter.unusedVariables false
set_option linter.unusedSimpArgs false
set_option maxHeartbeats 8000000
set_option maxRecDepth 100000
attribute [local go_sem ↓] Go.wp_at_zero Go.wp_at_succ
/-- these are open, and nobody else. -/
def Dm (s : Ls) (l : List Int) : Prop := ∀ m, (s.f (m, 1)).isSome = decide (m ≠ 0 ∧ m ∈ l)
theorem Dm.same {s s' : Ls} {l l' : List Int} (h : Dm s l) (hf : ∀ m, (s'.f (m, 1)).isSome = (s.f (m, 1)).isSome) (hl : ∀ m, m ≠ 0 → (m ∈ l' ↔ m ∈ l)) : Dm s' l' := fun m => by
  rw [hf, h m]
  congr 1
  exact propext ⟨fun ⟨a, b⟩ => ⟨a, (hl m a).2 b⟩, fun ⟨a, b⟩ => ⟨a, (hl m a).1 b⟩⟩
theorem nl_open_d {w W : World} {G k : Nat} {s : Ls} {ma ta bb : Int} {l : List Int} (h : Nl w W G k s) (hs : Nw s ma ta bb) (hd : Dm s l) (m : Int) (hm : U32 m) (hk : k < maxLen) : Calls Try.prog 20 #[.pointer (some ⟨G, 0, none⟩), .int .u32 m] W fun e w' => ∃ r s', e = .returned (.int .i64 r) ∧ Nl w w' G (k + 1) s' ∧ Nw s' ma ta bb ∧ Dm s' (l ++ [m]) := by
  have up : ∀ {U : World}, Nl w U G k s → Nl w U G (k + 1) s := fun {U} h => by
    obtain ⟨O, h1, h2, h3⟩ := h
    exact ⟨O, h1.mono (Nat.le_succ _), h2, h3⟩
  by_cases h0 : m = 0
  · subst h0
    exact open_zero.mono (fun e w' hh => ⟨1, s, hh.1, up (h.on hh.2), hs, hd.same (fun _ => rfl) (fun x hx => by simp [hx])⟩)
  · cases hf : s.f (m, 1) with
    | none =>
      refine (nl_open h m hm h0 hf hk).mono (fun e w' hh => ⟨0, _, hh.1, hh.2, ⟨hs.ma, hs.ta, hs.bb, hs.g, hs.es, fun x v hx => ?_⟩, fun x => ?_⟩)
      · by_cases e : x = (m, 1)
        · subst e
          have hx : upd s.f (m, 1) 0 (m, 1) = some v := hx
          rw [upd_same] at hx
          cases hx
          exact ⟨rfl, rfl, h0⟩
        · have hx : upd s.f (m, 1) 0 x = some v := hx
          rw [upd_other _ _ e] at hx
          exact hs.f x v hx
      · show (upd s.f (m, 1) 0 (x, 1)).isSome = _
        by_cases e : x = m
        · subst e
          rw [upd_same]
          exact (decide_eq_true ⟨h0, by simp⟩).symm
        · rw [upd_other _ _ (fun h => e (congrArg Prod.fst h)), hd x]
          congr 1
          simp [e]
    | some v =>
      obtain ⟨O, h1, h2, h3⟩ := id h
      have h9 : m ∈ l := by
        have := hd m
        rw [hf] at this
        exact (of_decide_eq_true this.symm).2
      exact (open_there h1 m hm h0 (by rw [hf]; rfl)).mono (fun e w' hh => ⟨81, s, hh.1, up (h.on hh.2), hs, hd.same (fun _ => rfl) (fun x hx => by
        rw [List.mem_append]
        refine ⟨fun e => ?_, .inl⟩
        rcases e with e | e
        · exact e
        · simp at e
          rw [e]
          exact h9)⟩)
theorem opened_d (ma ta bb : Int) (q : Option Addr) (c : Nat) (l : List Int) (w : World) (h0 : 0 ≤ ma) (h1 : 0 ≤ ta) (h2 : 0 < bb) (h3 : ma ≤ bb) (h4 : ta ≤ bb) (h5 : bb < 4294967296) (hu : Uz w q l) (hl : ∀ x ∈ l, U32 x) (hm : l.length ≤ 1048576) :
    Calls Try.prog 7 #[.agg #[.int .u32 ma, .int .u32 ta, .int .u32 bb], .slice q l.length c] w fun e w' => ∃ G s, e = .returned (.pointer (some ⟨G, 0, none⟩)) ∧ Nl w w' G l.length s ∧ Nw s ma ta bb ∧ Dm s l := by
  obtain ⟨Wa, hWa⟩ : ∃ W, w.alloc (.cells #[.int .u32 ma, .int .u32 ta, .int .u32 bb] 24) = W := ⟨_, rfl⟩
  have HBA := hid (show Below w.heap.size w Wa from by rw [← hWa]; exact ball _ _)
  have hr : Wa.heap[w.heap.size]? = some (.cells #[.int .u32 ma, .int .u32 ta, .int .u32 bb] 24 (0, 0)) := by rw [← hWa]; exact World.alloc_heap_new _ _
  have c0 := row_cell hr 0
  have c1 := row_cell hr 1
  have c2 := row_cell hr 2
  simp only [List.getElem?_toArray, List.getElem?_cons_succ, List.getElem?_cons_zero] at c0 c1 c2
  have C := hid (nl_new ma ta bb Wa h0 h1 h2 h3 h4 h5)
  have HWa := hid hWa
  obtain ⟨n, hn⟩ : ∃ n, l.length = n := ⟨_, rfl⟩
  have HN := hid hn
  have HU := hid hu
  have HLX := hid hl
  have HW0 := hid (show Nw (ls0 ma ta bb) ma ta bb from ⟨rfl, rfl, rfl, rfl, rfl, fun x v h => by cases h⟩)
  have HD0 := hid (show Dm (ls0 ma ta bb) (l.take 0) from fun m => by simp; rfl)
  rw [hn] at hm ⊢
  clear hWa hr h0 h1 h2 h3 h4 h5 hu hl hn
  go_enter Try.func7, Try.ntmps7
  go_upto_region 1 with fail
  rw [HWa.out]
  have pq : ∀ (B : Nat) (U : World), (binOp .eql 29 (.pointer (some ⟨B, 0, none⟩)) (.pointer none)).run Try.prog U = .ok (.bool false) U := fun B U => by kernel_rfl
  go_upto_region 5 with (go_at_call 19; with_reducible refine C.out.mono ?_; rintro e w1 ⟨G, rfl, hg⟩; have HG := hid hg; clear hg)
  clear c0 c1 c2 C HWa
  have HB1 := hid (show Nl w w1 G 0 (ls0 ma ta bb) from by
    obtain ⟨O, a1, a2, a3⟩ := HG.out
    exact ⟨O, a1, btr HBA.out a2, fun b hb => Nat.le_trans HBA.out.size (a3 b hb)⟩)
  go_loopw [7] (fun iv wr => ∃ i s, i ≤ n ∧ iv = .int .i64 (i : Nat) ∧ Hid (Nl w wr G i s) ∧ Hid (Nw s ma ta bb) ∧ Hid (Dm s (l.take i))) (fun iv _ => n - (intOf iv).toNat)
  case atStart => exact ⟨0, _, by omega, rfl, HB1, HW0, HD0⟩
  case round =>
    obtain ⟨i, s, hin, rfl, HE, HW, HD⟩ := hrel
    clear HG HB1 HD0
    by_cases hlt : i < n
    · have hi : i < l.length := by rw [HN.out]; exact hlt
      obtain ⟨b, off, eq, a0⟩ := HU.out.at HE.out.below hi
      subst eq
      have CE := hid (nl_open_d HE.out HW.out HD.out l[i] (HLX.out _ (List.getElem_mem hi)) (by unfold maxLen; omega))
      obtain ⟨z, hz⟩ : ∃ z, l[i] = z := ⟨_, rfl⟩
      have HTK := hid (show l.take (i + 1) = l.take i ++ [z] from by rw [List.take_add_one, List.getElem?_eq_getElem hi, hz]; rfl)
      rw [hz] at a0 CE
      have i0 : (0 : Int) ≤ (i : Int) := by omega
      have i1 : (i : Int) < (n : Int) := by omega
      clear hz
      go_wp2_with (go_at_call 20; with_reducible refine (CE.out).mono ?_; rintro e w2 ⟨r, s', rfl, hg, hw, hd⟩; have HG2 := hid hg; have HW2 := hid hw; have HD2 := hid hd; clear hg hw hd)
      go_roundw
      case rel => exact ⟨i + 1, s', by omega, by go_num, HG2, HW2, hid (by rw [HTK.out]; exact HD2.out)⟩
      case measure => simp [intOf]; omega
    · obtain rfl : i = n := by omega
      go_wp2
      go_ret
      exact ⟨G, s, rfl, HE.out, HW.out, by have := HD.out; rw [List.take_of_length_le (by rw [HN.out]; exact Nat.le_refl _)] at this; exact this⟩
end Go.Proofs.Ytphhllppgelceaa.Ac
namespace Go.Proofs.Ytphhllppgelceaa.Ac
open Go.RowKit Go.Deep Go.Maps Go.Proofs.Ytphhllppgelceaa.MonM
set_option linter.unusedVariables false
set_option linter.unusedSimpArgs false
/-- two ledgers that were made behind w, apart from each other and from the blocks F. -/
def Tw (w W : World) (F : Nat → Prop) (Ga Gb ka kb : Nat) (s t : Ls) : Prop := ∃ Oa Ob, Lg W Ga Oa ka s ∧ Lg W Gb Ob kb t ∧ (∀ b, Oa b → ¬ Ob b) ∧ Below w.heap.size w W ∧ (∀ b, Oa b → w.heap.size ≤ b) ∧ (∀ b, Ob b → w.heap.size ≤ b) ∧ ∀ b, F b → b < W.heap.size ∧ ¬ Oa b ∧ ¬ Ob b
theorem Tw.swap {w W : World} {F : Nat → Prop} {Ga Gb ka kb : Nat} {s t : Ls} (h : Tw w W F Ga Gb ka kb s t) : Tw w W F Gb Ga kb ka t s := by
  obtain ⟨Oa, Ob, h1, h2, h3, h4, h5, h6, h7⟩ := h
  exact ⟨Ob, Oa, h2, h1, fun b hb ha => h3 b ha hb, h4, h6, h5, fun b hb => ⟨(h7 b hb).1, (h7 b hb).2.2, (h7 b hb).2.1⟩⟩
theorem Tw.on {w W U : World} {F : Nat → Prop} {Ga Gb ka kb : Nat} {s t : Ls} (h : Tw w W F Ga Gb ka kb s t) (hb : Below W.heap.size W U) : Tw w U F Ga Gb ka kb s t := by
  obtain ⟨Oa, Ob, h1, h2, h3, h4, h5, h6, h7⟩ := h
  exact ⟨Oa, Ob, h1.on hb, h2.on hb, h3, btr h4 hb, h5, h6, fun b hb' => ⟨Nat.lt_of_lt_of_le (h7 b hb').1 hb.size, (h7 b hb').2⟩⟩
theorem Tw.below {w W : World} {F : Nat → Prop} {Ga Gb ka kb : Nat} {s t : Ls} (h : Tw w W F Ga Gb ka kb s t) : Below w.heap.size w W := by
  obtain ⟨Oa, Ob, h1, h2, h3, h4, h5, h6, h7⟩ := h
  exact h4
theorem Tw.a {w W : World} {F : Nat → Prop} {Ga Gb ka kb : Nat} {s t : Ls} (h : Tw w W F Ga Gb ka kb s t) : Nl w W Ga ka s := by
  obtain ⟨Oa, Ob, h1, h2, h3, h4, h5, h6, h7⟩ := h
  exact ⟨Oa, h1, h4, h5⟩
theorem Tw.b {w W : World} {F : Nat → Prop} {Ga Gb ka kb : Nat} {s t : Ls} (h : Tw w W F Ga Gb ka kb s t) : Nl w W Gb kb t := h.swap.a
theorem Tw.up {w W : World} {F : Nat → Prop} {Ga Gb ka kb ka' kb' : Nat} {s t : Ls} (h : Tw w W F Ga Gb ka kb s t) (h1 : ka ≤ ka') (h2 : kb ≤ kb') : Tw w W F Ga Gb ka' kb' s t := by
  obtain ⟨Oa, Ob, a1, a2, h⟩ := h
  exact ⟨Oa, Ob, a1.mono h1, a2.mono h2, h⟩
/-- what is ours besides is written, or grows. -/
theorem Tw.grow {w W U : World} {F F' : Nat → Prop} {Ga Gb ka kb : Nat} {s t : Ls} (h : Tw w W F Ga Gb ka kb s t) (hk : Kp F W U) (hw : ∀ b, F b → w.heap.size ≤ b) (h1 : ∀ b, F' b → F b ∨ W.heap.size ≤ b) (h2 : ∀ b, F' b → b < U.heap.size) : Tw w U F' Ga Gb ka kb s t := by
  obtain ⟨Oa, Ob, a1, a2, a3, a4, a5, a6, a7⟩ := h
  refine ⟨Oa, Ob, a1.kept hk (fun b hb hf => (a7 b hf).2.1 hb), a2.kept hk (fun b hb hf => (a7 b hf).2.2 hb), a3, a4.trans (hk.below a4.size (fun b hb hf => by have := hw b hf; omega)), a5, a6, fun b hb => ⟨h2 b hb, fun ho => ?_, fun ho => ?_⟩⟩
  · rcases h1 b hb with h | h
    · exact (a7 b h).2.1 ho
    · have := a1.lt b ho
      omega
  · rcases h1 b hb with h | h
    · exact (a7 b h).2.2 ho
    · have := a2.lt b ho
      omega
theorem tw_book_a {w W : World} {F : Nat → Prop} {Ga Gb ka kb : Nat} {s t : Ls} (h : Tw w W F Ga Gb ka kb s t) (d : De) (hd : DeOk d) (hk : ka + 13 ≤ 1000000000000) :
    Calls Try.prog 17 #[.pointer (some ⟨Ga, 0, none⟩), .agg d.row] W fun e w' => ∃ r, e = .returned (.int .i64 r) ∧ Tw w w' F Ga Gb (ka + 13) kb (stp s d) t ∧ ∀ b, F b → w'.heap[b]? = W.heap[b]? := by
  obtain ⟨Oa, Ob, h1, h2, h3, h4, h5, h6, h7⟩ := h
  refine (book_any h1 d hd hk).mono ?_
  rintro e w' ⟨r, s', O', rfl, a, b, c, x⟩
  rw [stp_of x] at a
  refine ⟨r, rfl, ⟨O', Ob, a, h2.kept b (fun j hj ho => h3 j ho hj), fun j hj hb => ?_, h4.trans (b.below h4.size (fun j hj e => by have := h5 j e; omega)), fun j hj => ?_, h6, fun j hj => ⟨Nat.lt_of_lt_of_le (h7 j hj).1 b.size, fun ho => ?_, (h7 j hj).2.2⟩⟩, fun j hj => b.obj j (h7 j hj).1 (h7 j hj).2.1⟩
  · rcases c j hj with h | h
    · exact h3 j h hb
    · have := h2.lt j hb
      omega
  · rcases c j hj with h | h
    · exact h5 j h
    · exact Nat.le_trans h4.size h
  · rcases c j ho with h | h
    · exact (h7 j hj).2.1 h
    · have := (h7 j hj).1
      omega
theorem tw_book_b {w W : World} {F : Nat → Prop} {Ga Gb ka kb : Nat} {s t : Ls} (h : Tw w W F Ga Gb ka kb s t) (d : De) (hd : DeOk d) (hk : kb + 13 ≤ 1000000000000) :
    Calls Try.prog 17 #[.pointer (some ⟨Gb, 0, none⟩), .agg d.row] W fun e w' => ∃ r, e = .returned (.int .i64 r) ∧ Tw w w' F Ga Gb ka (kb + 13) s (stp t d) ∧ ∀ b, F b → w'.heap[b]? = W.heap[b]? :=
  (tw_book_a h.swap d hd hk).mono (fun e w' ⟨r, h1, h2, h3⟩ => ⟨r, h1, h2.swap, h3⟩)
theorem Db.stp {s : Ls} {d : De} (h : Db s) (hd : DeOk d) (ht : Tf s) (hl : s.es.length ≤ 900000000000) : Db (stp s d) := by
  unfold Ac.stp
  by_cases ha : Acc s d
  · rw [if_pos ha]
    exact h.book hd ht ⟨ha.1, rfl, ha.2.1, ha.2.2⟩ hl
  · rw [if_neg ha]
    exact h
/-- the second ledger is made behind the first. -/
theorem Tw.open {w W U : World} {Ga Gb ka kb : Nat} {s t : Ls} (h : Nl w W Ga ka s) (k : Nl W U Gb kb t) : Tw w U (fun _ => False) Ga Gb ka kb s t := by
  obtain ⟨Oa, h1, h2, h3⟩ := h
  obtain ⟨Ob, k1, k2, k3⟩ := k
  exact ⟨Oa, Ob, h1.on k2, k1, fun b ha hb => by have := h1.lt b ha; have := k3 b hb; omega, btr h2 k2, h3, fun b hb => Nat.le_trans h2.size (k3 b hb), fun b hb => hb.elim⟩
/-- ledgers that were opened alike agree. -/
theorem Nw.sm {s t : Ls} {ma ta bb : Int} {l : List Int} (h : Nw s ma ta bb) (k : Nw t ma ta bb) (hd : Dm s l) (kd : Dm t l) : (∀ i, Sm i s t) ∧ s.es = t.es :=
  ⟨fun i => ⟨h.ma.trans k.ma.symm, h.ta.trans k.ta.symm, h.bb.trans k.bb.symm, fun m => (hd m).trans (kd m).symm, fun m => by rw [h.g, k.g]⟩, h.es.trans k.es.symm⟩
end Go.Proofs.Ytphhllppgelceaa.Ac
namespace Go.Proofs.Ytphhllppgelceaa.Ac
open Go.RowKit Go.Deep Go.Maps Go.Proofs.Ytphhllppgelceaa.MonM
set_option linter.unusedVariables false
set_option linter.unusedSimpArgs false
def inq (I : List Int) (d : De) : List Int := if d.it ∈ I then I else I ++ [d.it]
def ins (l : List De) : List Int := l.foldl inq []
theorem ins_snoc (l : List De) (d : De) : ins (l ++ [d]) = inq (ins l) d := by unfold ins; rw [List.foldl_append]; rfl
theorem inq_nd {I : List Int} (h : I.Nodup) (d : De) : (inq I d).Nodup := by
  unfold inq
  split
  · exact h
  · rename_i hd
    rw [List.nodup_append]
    refine ⟨h, by simp, fun a ha b hb e => ?_⟩
    simp at hb
    rw [e, hb] at ha
    exact hd ha
theorem inq_mem {I : List Int} (d : De) {x : Int} : x ∈ inq I d ↔ x ∈ I ∨ x = d.it := by
  unfold inq
  split
  · rename_i h
    exact ⟨.inl, fun e => by rcases e with e | e; exact e; rw [e]; exact h⟩
  · simp
theorem ins_all : ∀ (l : List De) {I : List Int}, I.Nodup → (l.foldl inq I).Nodup ∧ (∀ x, x ∈ l.foldl inq I ↔ x ∈ I ∨ ∃ d ∈ l, x = d.it) ∧ (l.foldl inq I).length ≤ I.length + l.length
  | [], I, h => ⟨h, by simp, by simp⟩
  | d :: l, I, h => by
    obtain ⟨h1, h2, h3⟩ := ins_all l (inq_nd h d)
    refine ⟨h1, fun x => ?_, ?_⟩
    · rw [List.foldl_cons, h2, inq_mem]
      simp
      exact or_assoc
    · have : (inq I d).length ≤ I.length + 1 := by
        unfold inq
        split
        · omega
        · simp
      rw [List.foldl_cons, List.length_cons]
      omega
theorem ins_nd (l : List De) : (ins l).Nodup := (ins_all l List.nodup_nil).1
theorem ins_mem {l : List De} {x : Int} : x ∈ ins l ↔ ∃ d ∈ l, x = d.it := by
  have := (ins_all l List.nodup_nil).2.1 x
  unfold ins
  rw [this]
  simp
theorem ins_len (l : List De) : (ins l).length ≤ l.length := by
  have := (ins_all l List.nodup_nil).2.2
  unfold ins
  simpa using this
theorem run_snoc (s : Ls) (l : List De) (d : De) : run s (l ++ [d]) = stp (run s l) d := by unfold run; rw [List.foldl_append]; rfl
theorem run_app (s : Ls) (a b : List De) : run s (a ++ b) = run (run s a) b := by unfold run; rw [List.foldl_append]
theorem ord_snoc (I : List Int) (i : Int) (l : List De) : ord (I ++ [i]) l = ord I l ++ flt i l := by unfold ord; rw [List.flatMap_append]; simp
theorem flt_snoc (i : Int) (l : List De) (d : De) : flt i (l ++ [d]) = if d.it = i then flt i l ++ [d] else flt i l := by
  unfold flt
  rw [List.filter_append]
  split
  · rename_i h
    simp [h]
  · rename_i h
    simp [h]
theorem take_snoc {α : Type} {l : List α} {i : Nat} (h : i < l.length) : l.take (i + 1) = l.take i ++ [l[i]] := by
  rw [List.take_add_one, List.getElem?_eq_getElem h]
  rfl
/-- from the last to the first. -/
theorem rev_take {I : List Int} {k : Nat} (h : k < I.length) : I.reverse.take (I.length - k) = I.reverse.take (I.length - (k + 1)) ++ [I[k]] := by
  have h1 : I.length - k = (I.length - (k + 1)) + 1 := by omega
  rw [h1, take_snoc (by rw [List.length_reverse]; omega), List.getElem_reverse]
  congr 3
  omega
/-- what Balance, Position and Entries answer is the same on both sides. -/
theorem apart_end {l : List De} {s t : Ls} (h : ∀ i, Sm i s t) (he : s.es = t.es) (hs : Db (run s l)) (ht : Db (run t (ord (ins l).reverse l))) :
    (∀ x, ((run s l).f x).getD 0 = ((run t (ord (ins l).reverse l)).f x).getD 0) ∧ (∀ i, i ∈ ins l → ∀ m, (run s l).g m i = (run t (ord (ins l).reverse l)).g m i) ∧ (run s l).es.length = (run t (ord (ins l).reverse l)).es.length := by
  have hn : (ins l).reverse.Nodup := (List.reverse_perm (ins l)).nodup_iff.2 (ins_nd l)
  have hl : ∀ d ∈ l, d.it ∈ (ins l).reverse := fun d hd => List.mem_reverse.2 (ins_mem.2 ⟨d, hd, rfl⟩)
  refine ⟨fun x => ?_, fun i hi m => (apart hn hl h he).1 i (List.mem_reverse.2 hi) m, apart_len hn hl h he⟩
  rw [hs.b, ht.b]
  exact apart_bal hn hl h he x
end Go.Proofs.Ytphhllppgelceaa.Ac
namespace Go.Proofs.Ytphhllppgelceaa.Ac
open Go.RowKit Go.Deep Go.Maps Go.Proofs.Ytphhllppgelceaa.MonM
set_option linter.unusedVariables false
set_option linter.unusedSimpArgs false
set_option maxHeartbeats 8000000
set_option maxRecDepth 100000
attribute [local go_sem ↓] Go.wp_at_zero Go.wp_at_succ
/-- deals that came in. -/
def Dz (w : World) (q : Option Addr) (l : List De) : Prop := ∀ i (h : i < l.length), ∃ b off, q = some ⟨b, off, none⟩ ∧ b < w.heap.size ∧ ∀ j, j < 6 → w.cell? ⟨b, off + i * 6 + j, none⟩ = (l[i].row)[j]?
theorem Dz.at {w : World} {q : Option Addr} {l : List De} (h : Dz w q l) {i : Nat} (hi : i < l.length) : ∃ b off, q = some ⟨b, off, none⟩ ∧ ∀ U, Below w.heap.size w U → U.cell? ⟨b, off + i * 6, none⟩ = some (.int .u32 l[i].it) ∧ U.cell? ⟨b, off + i * 6 + 1, none⟩ = some (.int .u32 l[i].bu) ∧ U.cell? ⟨b, off + i * 6 + 2, none⟩ = some (.int .u32 l[i].se) ∧ U.cell? ⟨b, off + i * 6 + 3, none⟩ = some (.int .i64 l[i].ta) ∧ U.cell? ⟨b, off + i * 6 + 4, none⟩ = some (.int .i64 l[i].pr) ∧ U.cell? ⟨b, off + i * 6 + 5, none⟩ = some (.int .u64 l[i].qt) := by
  obtain ⟨b, off, e, hb, hc⟩ := h i hi
  refine ⟨b, off, e, fun U hU => ?_⟩
  have g : ∀ j, j < 6 → U.cell? ⟨b, off + i * 6 + j, none⟩ = (l[i].row)[j]? := fun j hj => by rw [hU.cell (p := ⟨b, off + i * 6 + j, none⟩) hb]; exact hc j hj
  exact ⟨g 0 (by decide), g 1 (by decide), g 2 (by decide), g 3 (by decide), g 4 (by decide), g 5 (by decide)⟩
theorem ptr_nil (B : Nat) (U : World) : (binOp .eql 29 (.pointer (some ⟨B, 0, none⟩)) (.pointer none)).run Try.prog U = .ok (.bool false) U := by kernel_rfl
end Go.Proofs.Ytphhllppgelceaa.Ac
namespace Go.Proofs.Ytphhllppgelceaa.Ac
open List renaming getElem_toArray → lgA, getElem_cons_succ → lgB, getElem_cons_zero → lgC, setIfInBounds_toArray → lsA, set_cons_zero → lsB, set_cons_succ → lsC
open Go.RowKit Go.Deep Go.Maps Go.Proofs.Ytphhllppgelceaa.MonM
set_option linter.unusedVariables false
set_option linter.unusedSimpArgs false
set_option maxHeartbeats 8000000
set_option maxRecDepth 100000
attribute [local go_sem ↓] Go.wp_at_zero Go.wp_at_succ
theorem apart_no (ma ta bb : Int) (q : Option Addr) (n c : Nat) (q2 : Option Addr) (n2 c2 : Nat) (w : World) (h : bb = 0 ∨ bb < ma ∨ bb < ta) :
    Calls Try.prog 5 #[.agg #[.int .u32 ma, .int .u32 ta, .int .u32 bb], .slice q n c, .slice q2 n2 c2] w fun e w' => e = .returned (.bool true) ∧ Below w.heap.size w w' := by
  obtain ⟨Wa, hWa⟩ : ∃ W, w.alloc (.cells #[.int .u32 ma, .int .u32 ta, .int .u32 bb] 24) = W := ⟨_, rfl⟩
  have HBA := hid (show Below w.heap.size w Wa from by rw [← hWa]; exact ball _ _)
  have HRA := hid (show Wa.heap[w.heap.size]? = some (.cells #[.int .u32 ma, .int .u32 ta, .int .u32 bb] 24 (0, 0)) from by rw [← hWa]; exact World.alloc_heap_new _ _)
  have C := hid (show ∀ U, Calls Try.prog 7 #[.agg #[.int .u32 ma, .int .u32 ta, .int .u32 bb], .slice q n c] U fun e w' => e = .returned (.pointer none) ∧ Hid (Below U.heap.size U w') from fun U => opened_no ma ta bb q n c U h)
  obtain ⟨R0, hR0⟩ : ∃ t, w.heap.size = t := ⟨_, rfl⟩
  rw [hR0] at HRA
  have HR0 := hid hR0
  clear hR0
  have CL := hid lives_ok
  have HWa := hid hWa
  clear hWa
  have h3 : (bb == 0) = true ∨ (bb == 0) = false ∧ decide (bb < ma) = true ∨ (bb == 0) = false ∧ decide (bb < ma) = false ∧ decide (bb < ta) = true := by
    by_cases a : bb = 0
    · exact .inl (by simpa using a)
    · by_cases b : bb < ma
      · exact .inr (.inl ⟨by simpa using a, by simpa using b⟩)
      · refine .inr (.inr ⟨by simpa using a, by simpa using b, ?_⟩)
        rcases h with h | h | h
        · exact absurd h a
        · exact absurd h b
        · simpa using h
  clear h
  rcases h3 with e1 | ⟨e1, e2⟩ | ⟨e1, e2, e3⟩
  all_goals (
    go_enter Try.func5, Try.ntmps5
    go_upto_region 1 with fail
    rw [HWa.out, HR0.out]
    go_upto_region 3 with (go_at_call 6; with_reducible refine (CL.out _).mono ?_; rintro e w1 ⟨rfl, hb⟩; have HB1 := hid (btr HBA.out hb); have HR1 := hid (row_on HRA.out hb); clear hb)
    obtain ⟨V1, hV1⟩ : ∃ U, w1.drew = U := ⟨_, rfl⟩
    have BV1 := hid (show Below w1.heap.size w1 V1 from by rw [← hV1]; exact bdrew1 _)
    have r2 := hid (row_on HR1.out BV1.out)
    refine wp_region_held_drew (S := fun U => U.cell? ⟨R0, 0, none⟩ = some (.int .u32 ma) ∧ U.cell? ⟨R0, 1, none⟩ = some (.int .u32 ta) ∧ U.cell? ⟨R0, 2, none⟩ = some (.int .u32 bb)) (by kernel_rfl) ?_ (fun hHeld => ?_)
    · (try dsimp only); rw [hV1]; exact ⟨row_cell r2.out 0, row_cell r2.out 1, row_cell r2.out 2⟩
    rw [hV1] at hHeld ⊢
    clear hV1
    refine' wpAnyH_take (i := 0) rfl (by kernel_rfl) (by kernel_rfl) (by kernel_rfl) (fun _ _ _ h => h) (Or.inl ⟨by kernel_rfl, ?_⟩) (by assumption) ?_
    rotate_left
    · (intro w hSw; (try dsimp only at hSw); go_simp; try (with_reducible rfl))
    try simp only [lgA, lgB, lgC, Act.put, lsA, lsB, lsC]
    refine' wpAnyH_take (i := 1) rfl (by kernel_rfl) (by kernel_rfl) (by kernel_rfl) (fun _ _ _ h => h) (Or.inl ⟨by kernel_rfl, ?_⟩) (by assumption) ?_
    rotate_left
    · (intro w hSw; (try dsimp only at hSw); go_simp; try (with_reducible rfl))
    try simp only [lgA, lgB, lgC, Act.put, lsA, lsB, lsC]
    refine' wpAnyH_take (i := 3) rfl (by kernel_rfl) (by kernel_rfl) (by kernel_rfl) (fun _ _ _ h => h) (Or.inl ⟨by kernel_rfl, ?_⟩) (by assumption) ?_
    rotate_left
    · (intro w hSw; (try dsimp only at hSw); go_simp; try (with_reducible rfl))
    try simp only [lgA, lgB, lgC, Act.put, lsA, lsB, lsC]
    refine' wpAnyH_take (i := 4) rfl (by kernel_rfl) (by kernel_rfl) (by kernel_rfl) (fun _ _ _ h => h) (Or.inl ⟨by kernel_rfl, ?_⟩) (by assumption) ?_
    rotate_left
    · (intro w hSw; (try dsimp only at hSw); go_simp; try (with_reducible rfl))
    try simp only [lgA, lgB, lgC, Act.put, lsA, lsB, lsC]
    refine wpAnyH_ready (rs := [2]) (by kernel_rfl) (by simp) ?_
    refine (AllReadyH.cons rfl (fun K hK => ?_) AllReadyH.nil)
    go_simp
    go_at_call 7
    with_reducible refine (C.out V1).mono ?_
    rintro e X3 ⟨rfl, DbX3⟩
    have r4 := hid (row_on r2.out DbX3.out)
    have DX3 := hid (btr BV1.out DbX3.out)
    (try go_wp2_with fail)
    refine hK.out _ _ ?_ (fun hHeld => ?_)
    · (try dsimp only); exact ⟨row_cell r4.out 0, row_cell r4.out 1, row_cell r4.out 2⟩
    clear hK K
    try simp only [lgA, lgB, lgC, Act.put, lsA, lsB, lsC]
    refine wpAnyH_ready (rs := [5]) (by kernel_rfl) (by simp) ?_
    refine (AllReadyH.cons rfl (fun K hK => ?_) AllReadyH.nil)
    go_simp
    go_at_call 7
    with_reducible refine (C.out X3).mono ?_
    rintro e X5 ⟨rfl, DbX5⟩
    have r6 := hid (row_on r4.out DbX5.out)
    have DX5 := hid (btr DX3.out DbX5.out)
    (try go_wp2_with fail)
    refine hK.out _ _ ?_ (fun hHeld => ?_)
    · (try dsimp only); exact ⟨row_cell r6.out 0, row_cell r6.out 1, row_cell r6.out 2⟩
    clear hK K
    try simp only [lgA, lgB, lgC, Act.put, lsA, lsB, lsC]
    refine' wpAnyH_take (i := 6) rfl (by kernel_rfl) (by kernel_rfl) (by kernel_rfl) (fun _ _ _ h => h) (Or.inl ⟨by kernel_rfl, ?_⟩) (by assumption) ?_
    rotate_left
    · (intro w hSw; (try dsimp only at hSw); go_simp; try (with_reducible rfl))
    try simp only [lgA, lgB, lgC, Act.put, lsA, lsB, lsC]
    refine' wpAnyH_take (i := 7) rfl (by kernel_rfl) (by kernel_rfl) (by kernel_rfl) (fun _ _ _ h => h) (Or.inl ⟨by kernel_rfl, ?_⟩) (by assumption) ?_
    rotate_left
    · (intro w hSw; (try dsimp only at hSw); go_simp; try (with_reducible rfl))
    try simp only [lgA, lgB, lgC, Act.put, lsA, lsB, lsC]
    refine wpAnyH_done (by kernel_rfl) ?_ _
    have HB2 := hid (btr HB1.out DX5.out)
    have d0 := row_cell r6.out 0
    have d1 := row_cell r6.out 1
    have d2 := row_cell r6.out 2
    simp only [List.getElem?_toArray, List.getElem?_cons_succ, List.getElem?_cons_zero] at d0 d1 d2
    go_wp2
    go_ret
    exact ⟨rfl, HB2.out⟩)
end Go.Proofs.Ytphhllppgelceaa.Ac
