/-
  Double entry, plainly.
-/
import Derived.Test.YtphhllppgelceaaGh
namespace Go.Proofs.Ytphhllppgelceaa.Ac
open Go.RowKit Go.Deep Go.Maps Go.Proofs.Ytphhllppgelceaa.MonM
set_option linter.unusedVariables false
set_option linter.unusedSimpArgs false
/-- what an entry brings to an account. -/
def brg (e : En) (x : Int × Int) : Int := (if (e.tm, e.tk) = x then e.am else 0) - (if (e.fm, e.fk) = x then e.am else 0)
/-- what went to an account less what went from it. -/
def bal : List En → Int × Int → Int
  | [], _ => 0
  | e :: es, x => brg e x + bal es x
theorem bal_snoc (es : List En) (e : En) (x : Int × Int) : bal (es ++ [e]) x = bal es x + brg e x := by
  induction es with
  | nil => simp [bal]
  | cons a es ih => rw [List.cons_append, bal, bal, ih]; omega
/-- an account that money may go from. -/
def AcF (s : Ls) (x : Int × Int) : Prop := x = (0, 3) ∨ x.2 = 1 ∧ U32 x.1 ∧ (s.f (x.1, 1)).isSome = true
/-- one that money may go to. -/
def AcT (s : Ls) (x : Int × Int) : Prop := x = (0, 2) ∨ AcF s x
structure EnOk (s : Ls) (e : En) : Prop where
  pos : 0 < e.am
  le : e.am ≤ 9223372036854775808
  fr : AcF s (e.fm, e.fk)
  ta : AcT s (e.tm, e.tk)
/-- each balance is what its entries make. -/
structure Db (s : Ls) : Prop where
  b : ∀ x, (s.f x).getD 0 = bal s.es x
  en : ∀ e ∈ s.es, EnOk s e
theorem brg_le {s : Ls} {e : En} (h : EnOk s e) (x : Int × Int) : -9223372036854775808 ≤ brg e x ∧ brg e x ≤ 9223372036854775808 := by
  have h1 := h.pos
  have h2 := h.le
  unfold brg
  split <;> split <;> omega
theorem bal_le {s : Ls} : ∀ (es : List En) (x : Int × Int), (∀ e ∈ es, EnOk s e) → -(es.length * 9223372036854775808 : Int) ≤ bal es x ∧ bal es x ≤ es.length * 9223372036854775808
  | [], x, _ => by simp [bal]
  | e :: es, x, h => by
    have h1 := bal_le es x (fun y hy => h y (List.mem_cons_of_mem _ hy))
    have h2 := brg_le (h e List.mem_cons_self) x
    rw [bal, List.length_cons]
    omega
theorem maddV_eq {m n : Int} (h0 : -170141183460469231731687303715884105727 ≤ m + n) (h1 : m + n ≤ 170141183460469231731687303715884105727) : maddV m n = m + n := if_pos ⟨h0, h1⟩
theorem AcF.mono {s s' : Ls} (h : ∀ m, (s.f (m, 1)).isSome = true → (s'.f (m, 1)).isSome = true) {x : Int × Int} (hx : AcF s x) : AcF s' x := by
  rcases hx with hx | ⟨a, b, c⟩
  · exact .inl hx
  · exact .inr ⟨a, b, h _ c⟩
theorem EnOk.mono {s s' : Ls} (h : ∀ m, (s.f (m, 1)).isSome = true → (s'.f (m, 1)).isSome = true) {e : En} (hx : EnOk s e) : EnOk s' e :=
  ⟨hx.pos, hx.le, hx.fr.mono h, by rcases hx.ta with hx | hx; exact .inl hx; exact .inr (hx.mono h)⟩
theorem upd_up {f : Int × Int → Option Int} {a x : Int × Int} {v : Int} (h : (f x).isSome = true) : (upd f a v x).isSome = true := by
  unfold upd
  split
  · rfl
  · exact h
theorem ent_up (s : Ls) (a b : Int × Int) (v m : Int) (h : (s.f (m, 1)).isSome = true) : ((ent s a b v).f (m, 1)).isSome = true := by
  unfold ent
  split
  · exact h
  · exact upd_up (upd_up h)
theorem ent_len (s : Ls) (a b : Int × Int) (v : Int) : (ent s a b v).es.length ≤ s.es.length + 1 := by
  unfold ent
  split
  · omega
  · simp
theorem Db.ent {s : Ls} (h : Db s) (a b : Int × Int) (v : Int) (h0 : 0 ≤ v) (h1 : v ≤ 9223372036854775808) (hl : s.es.length ≤ 1000000000000) (hf : AcF s a) (ht : AcT s b) : Db (Ac.ent s a b v) := by
  by_cases hv : v = 0
  · have e : Ac.ent s a b v = s := if_pos hv
    rw [e]
    exact h
  · have e : Ac.ent s a b v = { s with es := s.es ++ [⟨a.1, a.2, b.1, b.2, v⟩], f := upd (upd s.f a (maddV ((s.f a).getD 0) (-v))) b (maddV ((upd s.f a (maddV ((s.f a).getD 0) (-v)) b).getD 0) v) } := if_neg hv
    have up := ent_up s a b v
    rw [e] at up ⊢
    have ba := bal_le s.es a h.en
    have bb := bal_le s.es b h.en
    have ea : maddV ((s.f a).getD 0) (-v) = bal s.es a - v := by
      rw [h.b a, maddV_eq (by omega) (by omega)]
      omega
    refine ⟨fun x => ?_, fun y hy => ?_⟩
    · show (upd (upd s.f a (maddV ((s.f a).getD 0) (-v))) b (maddV ((upd s.f a (maddV ((s.f a).getD 0) (-v)) b).getD 0) v) x).getD 0 = bal (s.es ++ [⟨a.1, a.2, b.1, b.2, v⟩]) x
      rw [bal_snoc, ea]
      have eb : brg ⟨a.1, a.2, b.1, b.2, v⟩ x = (if b = x then v else 0) - (if a = x then v else 0) := rfl
      rw [eb]
      have f1 : ∀ y, (upd s.f a (bal s.es a - v) y).getD 0 = bal s.es y - (if a = y then v else 0) := by
        intro y
        unfold upd
        by_cases e1 : y = a
        · rw [if_pos e1, e1, if_pos rfl]; rfl
        · rw [if_neg e1, if_neg (fun h => e1 h.symm), h.b y]; omega
      have ebv : maddV ((upd s.f a (bal s.es a - v) b).getD 0) v = bal s.es b - (if a = b then v else 0) + v := by
        rw [f1 b]
        have : -v ≤ -(if a = b then v else 0) ∧ -(if a = b then v else 0) ≤ 0 := by split <;> omega
        rw [maddV_eq (by omega) (by omega)]
      rw [ebv]
      by_cases e1 : x = b
      · subst e1
        rw [upd_same, if_pos rfl]
        show bal s.es x - _ + v = _
        omega
      · rw [upd_other _ _ e1, f1 x, show (if b = x then v else 0) = 0 from if_neg (fun h => e1 h.symm)]
        omega
    · rcases List.mem_append.1 hy with hy | hy
      · exact (h.en y hy).mono up
      · simp at hy
        subst hy
        exact ⟨by show 0 < v; omega, h1, hf.mono up, by rcases ht with ht | ht; exact .inl ht; exact .inr (ht.mono up)⟩
/-- a sum over accounts. -/
def tota (l : List (Int × Int)) (h : Int × Int → Int) : Int := (l.map h).sum
theorem tota_cons (a : Int × Int) (l : List (Int × Int)) (h : Int × Int → Int) : tota (a :: l) h = h a + tota l h := by simp [tota]
theorem tota_snoc (l : List (Int × Int)) (a : Int × Int) (h : Int × Int → Int) : tota (l ++ [a]) h = tota l h + h a := by
  induction l with
  | nil => simp [tota]
  | cons x l ih => rw [List.cons_append, tota_cons, tota_cons, ih]; omega
theorem tota_add (l : List (Int × Int)) (h h' : Int × Int → Int) : tota l (fun x => h x + h' x) = tota l h + tota l h' := by
  induction l with
  | nil => rfl
  | cons x l ih => rw [tota_cons, tota_cons, tota_cons, ih]; omega
theorem tota_sub (l : List (Int × Int)) (h h' : Int × Int → Int) : tota l (fun x => h x - h' x) = tota l h - tota l h' := by
  induction l with
  | nil => rfl
  | cons x l ih => rw [tota_cons, tota_cons, tota_cons, ih]; omega
theorem tota_none {l : List (Int × Int)} {y : Int × Int} (hy : y ∉ l) (v : Int) : tota l (fun x => if y = x then v else 0) = 0 := by
  induction l with
  | nil => rfl
  | cons x l ih =>
    rw [tota_cons, if_neg (fun e => hy (by rw [e]; exact List.mem_cons_self)), ih (fun e => hy (List.mem_cons_of_mem _ e))]
    rfl
theorem tota_one {l : List (Int × Int)} (hn : l.Nodup) {y : Int × Int} (hy : y ∈ l) (v : Int) : tota l (fun x => if y = x then v else 0) = v := by
  induction l with
  | nil => cases hy
  | cons x l ih =>
    rw [List.nodup_cons] at hn
    rw [tota_cons]
    by_cases e : y = x
    · subst e
      rw [if_pos rfl, tota_none hn.1]
      omega
    · rw [if_neg e, ih hn.2 (by rcases List.mem_cons.1 hy with h | h; exact absurd h e; exact h)]
      omega
/-- all accounts. -/
def alls (ms : List Int) : List (Int × Int) := (0, 2) :: (0, 3) :: ms.map fun m => (m, 1)
theorem alls_nd {ms : List Int} (h : ms.Nodup) : (alls ms).Nodup := by
  unfold alls
  rw [List.nodup_cons, List.nodup_cons]
  refine ⟨fun e => ?_, fun e => ?_, ?_⟩
  · rcases List.mem_cons.1 e with e | e
    · exact absurd (congrArg Prod.snd e) (by decide)
    · obtain ⟨m, _, e⟩ := List.mem_map.1 e
      exact absurd (show (1 : Int) = 2 from congrArg Prod.snd e) (by decide)
  · obtain ⟨m, _, e⟩ := List.mem_map.1 e
    exact absurd (show (1 : Int) = 3 from congrArg Prod.snd e) (by decide)
  · induction ms with
    | nil => exact List.nodup_nil
    | cons a ms ih =>
      rw [List.nodup_cons] at h
      rw [List.map_cons, List.nodup_cons]
      refine ⟨fun e => ?_, ih h.2⟩
      obtain ⟨m, hm, e⟩ := List.mem_map.1 e
      have e2 : m = a := congrArg Prod.fst e
      rw [e2] at hm
      exact h.1 hm
theorem mem_alls {s : Ls} {ms : List Int} (h : Mb s ms) {x : Int × Int} (hx : AcT s x) : x ∈ alls ms := by
  unfold alls
  rcases hx with hx | hx | ⟨a, b, c⟩
  · rw [hx]; exact List.mem_cons_self
  · rw [hx]; exact List.mem_cons_of_mem _ List.mem_cons_self
  · refine List.mem_cons_of_mem _ (List.mem_cons_of_mem _ (List.mem_map.2 ⟨x.1, (h.iff _ b).2 c, ?_⟩))
    rw [← a]
theorem Db.sum {s : Ls} (h : Db s) {ms : List Int} (hm : Mb s ms) : tota (alls ms) (fun x => (s.f x).getD 0) = 0 := by
  have e0 : tota (alls ms) (fun x => (s.f x).getD 0) = tota (alls ms) (fun x => bal s.es x) := by
    congr 1
    funext x
    exact h.b x
  rw [e0]
  have key : ∀ es : List En, (∀ e ∈ es, EnOk s e) → tota (alls ms) (fun x => bal es x) = 0 := by
    intro es
    induction es with
    | nil =>
      intro _
      have : ∀ l : List (Int × Int), tota l (fun _ => 0) = 0 := fun l => by
        induction l with
        | nil => rfl
        | cons x l ih => rw [tota_cons, ih]; rfl
      exact this _
    | cons e es ih =>
      intro he
      have h1 := ih (fun y hy => he y (List.mem_cons_of_mem _ hy))
      have h2 := he e List.mem_cons_self
      show tota (alls ms) (fun x => brg e x + bal es x) = 0
      rw [tota_add, h1]
      show tota (alls ms) (fun x => (if (e.tm, e.tk) = x then e.am else 0) - (if (e.fm, e.fk) = x then e.am else 0)) + 0 = 0
      rw [tota_sub, tota_one (alls_nd hm.nd) (mem_alls hm h2.ta), tota_one (alls_nd hm.nd) (mem_alls hm (.inr h2.fr))]
      omega
  exact key _ h.en
theorem Nw.db {s : Ls} {ma ta bb : Int} (h : Nw s ma ta bb) : Db s :=
  ⟨fun x => by
    rw [h.es]
    cases e : s.f x with
    | none => rfl
    | some v => exact (h.f x v e).1, fun e he => by rw [h.es] at he; cases he⟩
theorem Db.book {s s' : Ls} {d : De} (h : Db s) (hd : DeOk d) (ht : Tf s) (hb : Bkd s d s') (hl : s.es.length ≤ 900000000000) : Db s' := by
  obtain ⟨o1, o2⟩ := bkc_open hb.bk
  have H := bkc_ok hb.bk
  have hv0 : 0 ≤ d.pr * d.qt := Int.mul_nonneg H.p0 (by have := H.q0; omega)
  have hv1 : d.pr * d.qt ≤ 262144 * 4294967296 := Int.mul_le_mul (by have := H.p1; omega) (by have := H.q1; omega) (by have := H.q0; omega) (by omega)
  have hva : absI (d.pr * d.qt) = d.pr * d.qt := absI_pos hv0
  have fe : ∀ (t : Ls), t.ma = s.ma → t.ta = s.ta → t.bb = s.bb → ∀ tk, 0 ≤ fee t (d.pr * d.qt) tk ∧ fee t (d.pr * d.qt) tk ≤ 9223372036854775808 := by
    intro t e1 e2 e3 tk
    unfold fee
    have hr : 0 ≤ (if tk = true then t.ta else t.ma) ∧ (if tk = true then t.ta else t.ma) ≤ t.bb := by
      rw [e1, e2, e3]
      split
      · exact ⟨ht.t0, ht.tb⟩
      · exact ⟨ht.m0, ht.mb⟩
    obtain ⟨_, _, p0, p1⟩ := ptq_le (d.pr * d.qt) (if tk = true then t.ta else t.ma) t.bb 1 hr.1 hr.2 (by rw [e3]; exact ht.b0)
    unfold ptn
    rw [if_neg (by omega)]
    omega
  have tf : ∀ (t : Ls) a b v, (Ac.ent t a b v).ma = t.ma ∧ (Ac.ent t a b v).ta = t.ta ∧ (Ac.ent t a b v).bb = t.bb := by
    intro t a b v
    unfold Ac.ent
    split <;> exact ⟨rfl, rfl, rfl⟩
  rw [hb.st]
  obtain ⟨s1, hs1⟩ : ∃ t, Ac.ent s (d.bu, 1) (d.se, 1) (d.pr * d.qt) = t := ⟨_, rfl⟩
  have d1 : Db s1 := by rw [← hs1]; exact h.ent _ _ _ hv0 (by omega) (by omega) (.inr ⟨rfl, hd.bu, o1⟩) (.inr (.inr ⟨rfl, hd.se, o2⟩))
  have l1 : s1.es.length ≤ s.es.length + 1 := by rw [← hs1]; exact ent_len _ _ _ _
  have t1 : s1.ma = s.ma ∧ s1.ta = s.ta ∧ s1.bb = s.bb := by rw [← hs1]; exact tf _ _ _ _
  have u1 : ∀ m, (s.f (m, 1)).isSome = true → (s1.f (m, 1)).isSome = true := fun m hm => by rw [← hs1]; exact ent_up _ _ _ _ _ hm
  have f1 := fe s1 t1.1 t1.2.1 t1.2.2 (d.ta == 1)
  obtain ⟨s2, hs2⟩ : ∃ t, Ac.ent s1 (d.bu, 1) (0, 2) (fee s1 (d.pr * d.qt) (d.ta == 1)) = t := ⟨_, rfl⟩
  have d2 : Db s2 := by rw [← hs2]; exact d1.ent _ _ _ f1.1 f1.2 (by omega) (.inr ⟨rfl, hd.bu, u1 _ o1⟩) (.inl rfl)
  have l2 : s2.es.length ≤ s1.es.length + 1 := by rw [← hs2]; exact ent_len _ _ _ _
  have t2 : s2.ma = s.ma ∧ s2.ta = s.ta ∧ s2.bb = s.bb := by have := tf s1 (d.bu, 1) (0, 2) (fee s1 (d.pr * d.qt) (d.ta == 1)); rw [hs2] at this; exact ⟨this.1.trans t1.1, this.2.1.trans t1.2.1, this.2.2.trans t1.2.2⟩
  have u2 : ∀ m, (s.f (m, 1)).isSome = true → (s2.f (m, 1)).isSome = true := fun m hm => by rw [← hs2]; exact ent_up _ _ _ _ _ (u1 m hm)
  have f2 := fe s2 t2.1 t2.2.1 t2.2.2 (d.ta == 2)
  have d3 : Db (Ac.ent s2 (d.se, 1) (0, 2) (fee s2 (d.pr * d.qt) (d.ta == 2))) := d2.ent _ _ _ f2.1 f2.2 (by omega) (.inr ⟨rfl, hd.se, u2 _ o2⟩) (.inl rfl)
  have e : bkd s d (bkA s d) (bkC s d) = { Ac.ent s2 (d.se, 1) (0, 2) (fee s2 (d.pr * d.qt) (d.ta == 2)) with g := gupd (gupd (Ac.ent s2 (d.se, 1) (0, 2) (fee s2 (d.pr * d.qt) (d.ta == 2))).g d.bu d.it (bkA s d)) d.se d.it (bkC s d) } := by
    unfold bkd
    simp only
    rw [hs1, hs2]
  rw [e]
  exact ⟨d3.b, fun y hy => let h := d3.en y hy; ⟨h.pos, h.le, h.fr, h.ta⟩⟩
end Go.Proofs.Ytphhllppgelceaa.Ac
namespace Go.Proofs.Ytphhllppgelceaa.Ac
open Go.RowKit Go.Deep Go.Maps Go.Proofs.Ytphhllppgelceaa.MonM
set_option linter.unusedVariables false
set_option linter.unusedSimpArgs false
set_option maxHeartbeats 8000000
set_option maxRecDepth 100000
attribute [local go_sem ↓] Go.wp_at_zero Go.wp_at_succ
/-- deals that came in. -/
def Dz (w : World) (q : Option Addr) (l : List De) : Prop := ∀ i (h : i < l.length), ∃ b off, q = some ⟨b, off, none⟩ ∧ b < w.heap.size ∧ ∀ j, j < 6 → w.cell? ⟨b, off + i * 6 + j, none⟩ = (l[i].row)[j]?
theorem Dz.at {w : World} {q : Option Addr} {l : List De} (h : Dz w q l) {i : Nat} (hi : i < l.length) : ∃ b off, q = some ⟨b, off, none⟩ ∧ ∀ U, Below w.heap.size w U → U.cell? ⟨b, off + i * 6, none⟩ = some (.int .u32 l[i].it) ∧ U.cell? ⟨b, off + i * 6 + 1, none⟩ = some (.int .u32 l[i].bu) ∧ U.cell? ⟨b, off + i * 6 + 2, none⟩ = some (.int .u32 l[i].se) ∧ U.cell? ⟨b, off + i * 6 + 3, none⟩ = some (.int .i64 l[i].ta) ∧ U.cell? ⟨b, off + i * 6 + 4, none⟩ = some (.int .i64 l[i].pr) ∧ U.cell? ⟨b, off + i * 6 + 5, none⟩ = some (.int .u64 l[i].qt) := by
  obtain ⟨b, off, e, hb, hc⟩ := h i hi
  refine ⟨b, off, e, fun U hU => ?_⟩
  have g : ∀ j, j < 6 → U.cell? ⟨b, off + i * 6 + j, none⟩ = (l[i].row)[j]? := fun j hj => by rw [hU.cell (p := ⟨b, off + i * 6 + j, none⟩) hb]; exact hc j hj
  exact ⟨g 0 (by decide), g 1 (by decide), g 2 (by decide), g 3 (by decide), g 4 (by decide), g 5 (by decide)⟩
theorem ptr_nil (B : Nat) (U : World) : (binOp .eql 29 (.pointer (some ⟨B, 0, none⟩)) (.pointer none)).run Try.prog U = .ok (.bool false) U := by kernel_rfl
end Go.Proofs.Ytphhllppgelceaa.Ac
