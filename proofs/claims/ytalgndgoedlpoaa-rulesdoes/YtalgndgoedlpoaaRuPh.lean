/-
  RuSk RuPh
-/
import Derived.Test.YtalgndgoedlpoaaRuSh
import Derived.Test.YtalgndgoedlpoaaRuSj
import Derived.Test.YtalgndgoedlpoaaRuRc
import Derived.Test.YtalgndgoedlpoaaRuKw
namespace Go.Proofs.Ytalgndgoedlpoaa
section
open Go.RowKit Go.Deep Go.Shelf
set_option linter.unusedVariables false
set_option linter.unusedSimpArgs false
set_option maxHeartbeats 8000000
set_option maxRecDepth 100000
attribute [local go_sem ↓] Go.wp_at_zero Go.wp_at_succ
theorem ddo_any (d : Db) (b : Bs) (c : Cm) (w : World) (hd : Dof d b) (h : Dm w d) (hgb : Gb b) (hpk : Pk b) (hm : 0 ≤ b.meet ∧ b.meet ≤ 3) (hc : CmOk c) :
  Calls Try.prog 11 #[.agg #[.int .i64 d.cap, .int .i64 d.meet, .slice d.p1 d.o1.length d.c1, .slice d.p2 d.o2.length d.c2, .int .u64 d.high, .int .u64 d.seq], .agg #[.int .i64 c.kd, .int .u64 c.id, .int .u64 c.tg, .int .u32 c.mb, .int .i64 c.sd, .int .i64 c.ty, .int .i64 c.pr, .int .u64 c.qt, .int .u64 c.pk]] w fun e w' => ∃ d2 p2 n2 c2 es2, e = .returned (.tuple #[.agg #[.int .i64 d2.cap, .int .i64 d2.meet, .slice d2.p1 d2.o1.length d2.c1, .slice d2.p2 d2.o2.length d2.c2, .int .u64 d2.high, .int .u64 d2.seq], .slice p2 n2 c2]) ∧ (Dm w' d2 ∧ Al w.heap.size d2) ∧ es2.length = n2 ∧ Rv w' (.slice p2 n2 c2) es2 ∧ Below w.heap.size w w' ∧ ∀ b' es', Did b c b' es' → Dof d2 b' ∧ es2 = es' := by
 by_cases hy : rfs b c = 0
 ·rcases rfs_zero hy with ⟨hk, o, s, k, i, hf⟩ | ⟨hk, _⟩ | ⟨hk, ⟨o, s, k, i, hf⟩, _⟩
  ·exact ddo_can d b c w hd h hgb hpk hm hc hy hk hf
  ·exact ddo_new d b c w hd h hgb hpk hm hc hy hk
  ·exact ddo_rep d b c w hd h hgb hpk hm hc hy hk hf
 ·exact ddo_ref d b c w hd h hgb hpk hm hc hy
end
section
section
open Go.RowKit Go.Deep Go.Shelf
set_option linter.unusedVariables false
set_option linter.unusedSimpArgs false
/-- the bounds of an order that may show nothing. -/
def OrB (x : Or) : Prop := 0 ≤ x.vi ∧ 0 ≤ x.hi ∧ x.vi + x.hi < 4294967296 ∧ 0 ≤ x.pk
theorem OrOk.b {x : Or} (h : OrOk x) : OrB x := ⟨Int.le_of_lt h.1, h.2.1, h.2.2.1, h.2.2.2⟩
/-- what the law asks of the events behind an ack. -/
def Pr : Ev → Int → List Or → List Ev → Prop
  | _, _, _, [] => True
  | a, q, l, e :: es =>
    (e.kd = 3 ∧ 0 ≤ q ∧ q < 4294967296 ∧ ∃ y r, l = y :: r ∧ OrB y ∧ e.id = a.id ∧ e.ot = y.id ∧ e.pr = y.pr ∧ e.sd = a.sd ∧ (a.ty ≠ 2 → (a.sd = 1 → y.pr ≤ a.pr) ∧ (a.sd = 2 → a.pr ≤ y.pr)) ∧ e.qt = min q y.vi ∧
      ((y.vi - min q y.vi = 0 ∧ y.hi = 0 ∧ Pr a (q - min q y.vi) r es) ∨
       (y.vi - min q y.vi ≠ 0 ∧ Pr a (q - min q y.vi) (y.less (min q y.vi) :: r) es) ∨
       (y.vi - min q y.vi = 0 ∧ y.hi ≠ 0 ∧ (∃ e' es', es = e' :: es' ∧ e'.kd = 5) ∧ Pr a (q - min q y.vi) (y.less (min q y.vi) :: r) es))) ∨
    (e.kd = 5 ∧ ∃ y r, l = y :: r ∧ r.length ≤ 1048576 ∧ OrB y ∧ y.id = e.id ∧ y.vi = 0 ∧ y.hi ≠ 0 ∧ y.pk ≠ 0 ∧ e.pr = y.pr ∧ e.qt = y.shn.vi ∧ Pr a q (inO (bhO (oth a.sd) y.pr r) y.shn r) es) ∨
    (e.kd = 4 ∧ ((e.rs = 5 ∧ e.id ≠ a.id ∧ ∃ y r, l = y :: r ∧ OrB y ∧ y.id = e.id ∧ y.mb ≠ 0 ∧ y.mb = a.mb ∧ e.qt = y.vi + y.hi ∧ Pr a q r es) ∨ (¬ (e.rs = 5 ∧ e.id ≠ a.id) ∧ Pr a q l es)))
/-- what it asks ahead of an ack. -/
def P0 (b : Bs) : List Ev → Prop
  | [] => True
  | e :: es => (e.kd = 1 ∧ (e.sd = 1 ∨ e.sd = 2) ∧ Pr e e.qt (osl (b.sl (oth e.sd))) es) ∨ ((e.kd = 2 ∨ (e.kd = 4 ∧ e.rs ≠ 5)) ∧ P0 b es)
/-- with no peak all is shown. -/
def Pkl (l : LO) : Prop := ∀ y ∈ l, y.2.pk = 0 → y.2.hi = 0
theorem pkl_agn {S : Int} {x : Nat × Or} {r : LO} (h : Pkl (x :: r)) : Pkl (agn S (x :: r)) := fun y hy => h y ((agn_perm S _).mem_iff.1 hy)
theorem pkl_trl {S : Int} {f : Nat} {x : Or} {r : LO} {q : Int} (h : Pkl ((f, x) :: r)) : Pkl (trl S f x r q) := by
  have h0 := h (f, x) (by simp)
  have h1 : Pkl r := fun y hy => h y (by simp [hy])
  unfold trl
  split
  · intro y hy
    rcases List.mem_cons.1 hy with rfl | hy
    · exact h0
    · exact h1 y hy
  · split
    · exact h1
    · rename_i hh
      refine pkl_agn ?_
      intro y hy
      rcases List.mem_cons.1 hy with rfl | hy
      · intro e
        exact absurd (h0 e) hh
      · exact h1 y hy
theorem mtB_pk {b : Bs} {o : Or} {s q : Int} {f : Nat} {x : Or} {r : LO} (hs : s = 1 ∨ s = 2) (hl : b.sl (oth s) = (f, x) :: r) (h : ∀ S, Pkl (b.sl S)) : ∀ S, Pkl ((mtB b o s q f x r).1.sl S) := by
  have hS := oth_side hs
  have hx : Pkl ((f, x) :: r) := by rw [← hl]; exact h _
  have hd : ∀ S, Pkl ((b.del (oth s) 0).sl S) := fun S => by
    unfold Bs.del
    rw [put_sl' _ _ _ _ _ _ hS]
    split
    · exact fun y hy => h _ y (List.mem_of_mem_eraseIdx hy)
    · exact h S
  intro S
  unfold mtB
  split
  · have e : (trb b x (min q x.vi)).sl S = b.sl S := by
      unfold trb
      split
      · rfl
      · split <;> rfl
    simp only
    rw [put_sl' _ _ _ _ _ _ hS]
    split
    · exact pkl_trl hx
    · rw [e]; exact h S
  · split
    · exact h S
    · split
      · exact hd S
      · exact hd S
theorem cms_pk {o : Or} {s : Int} (hs : s = 1 ∨ s = 2) : ∀ (n : Nat) (b : Bs) (es : List Ev) (q : Int), (∀ S, Pkl (b.sl S)) → ∀ S, Pkl ((cms o s n (b, es, q)).1.sl S)
  | 0, b, es, q, h => h
  | n + 1, b, es, q, h => by
    by_cases hc : 0 < q ∧ mts b o s = true
    · obtain ⟨f, x, r, hl⟩ := mts_cons hc.2
      rw [cms_step hc hl]
      exact cms_pk hs n _ _ _ (mtB_pk hs hl h)
    · rw [cms_end hc]
      exact h
theorem took_pk {b : Bs} {es : List Ev} {o : Or} {s q : Int} {b' : Bs} {es' : List Ev} (hs : s = 1 ∨ s = 2) (h : Took b es o s q b' es') (k : ∀ S, Pkl (b.sl S)) : ∀ S, Pkl (b'.sl S) := by
  rcases h with ⟨_, _, rfl, _⟩ | ⟨_, n, hc⟩
  · exact k
  · have h1 := cms_pk (o := o) hs (mes b s q + 1) (b.hgh o.id).told (es ++ [(evA o s q).num (nx b.seq)]) q k
    rcases hc with ⟨_, rfl, _⟩ | ⟨_, _, _, p', c', blk, _, rfl⟩ | ⟨_, _, rfl, _⟩
    · exact h1
    · intro S
      rw [put_sl' _ _ _ _ _ _ hs]
      split
      · intro y hy
        rcases List.mem_cons.1 (ins_perm.mem_iff.1 hy) with rfl | hy
        · intro e
          have e' : o.pk = 0 := e
          simp [shw, e']
        · exact h1 s y hy
      · exact h1 S
    · exact h1
theorem did_pk {b : Bs} {c : Cm} {b' : Bs} {es : List Ev} (h : Did b c b' es) (k : ∀ S, Pkl (b.sl S)) : ∀ S, Pkl (b'.sl S) := by
  have hd : ∀ s i, (s = 1 ∨ s = 2) → ∀ S, Pkl ((b.del s i).sl S) := fun s i hs S => by
    unfold Bs.del
    rw [put_sl' _ _ _ _ _ _ hs]
    split
    · exact fun y hy => k _ y (List.mem_of_mem_eraseIdx hy)
    · exact k S
  rcases h with ⟨_, rfl, _⟩ | ⟨_, _, o, s, kk, i, hf, rfl, _⟩ | ⟨h0, k1, ht⟩ | ⟨h0, k3, o, s, kk, i, hf, ht⟩
  · exact k
  · exact hd s i hf.side
  · have e : cmN b c = c := by unfold cmN; rw [if_neg (by omega)]
    rw [e] at ht
    rcases rfs_zero h0 with ⟨x, _⟩ | ⟨_, hs, _, _⟩ | ⟨x, _⟩
    · omega
    · exact took_pk hs ht k
    · omega
  · have hsd : (cmN b c).sd = s := by unfold cmN; rw [if_pos k3, hf.ff]
    rw [hsd] at ht
    exact took_pk hf.side ht (hd s i hf.side)
end
section
open Go.RowKit Go.Deep Go.Shelf
set_option linter.unusedVariables false
set_option linter.unusedSimpArgs false
set_option maxHeartbeats 2000000
/-- orders in memory, from some place of a block on. -/
structure Sd (U : World) (F : Nat → Prop) (p : Option Addr) (c : Nat) (l : List Or) : Prop where
  le : l.length ≤ c
  mx : c ≤ maxLen
  at' : l ≠ [] → ∃ g off cur, p = some ⟨g, off, none⟩ ∧ F g ∧ U.heap[g]? = some (.cells cur 50 (0, 0)) ∧ ∀ i (h : i < l.length) j, j < 7 → cur[off + i * 7 + j]? = (orow l[i]).toList[j]?
theorem Sd.same {U V : World} {F : Nat → Prop} {p : Option Addr} {c : Nat} {l : List Or} (h : Sd U F p c l) (hs : ∀ g cur, F g → U.heap[g]? = some (.cells cur 50 (0, 0)) → V.heap[g]? = some (.cells cur 50 (0, 0))) : Sd V F p c l :=
  ⟨h.le, h.mx, fun hn => by
    obtain ⟨g, off, cur, e, hf, hr, hc⟩ := h.at' hn
    exact ⟨g, off, cur, e, hf, hs g cur hf hr, hc⟩⟩
theorem Sd.on {U V : World} {F : Nat → Prop} {p : Option Addr} {c : Nat} {l : List Or} (h : Sd U F p c l) (hb : Below U.heap.size U V) : Sd V F p c l := h.same (fun g cur _ hr => row_on hr hb)
/-- no event. -/
def ez : Ev := ⟨0, 0, 0, 0, 0, 0, 0, 0, 0, 0, 0, 0, 0⟩
/-- what the law holds of the events so far. -/
def Hl (b : Bs) (A : Nat) (F : Nat → Prop) (v1 v2 : Value) (U : World) (left : Int) (p : Option Addr) (n c : Nat) (es : List Ev) : Prop :=
  (U.ownsRow 0 50 7 v1 b.l1.length (ors (osl b.l1)) ∧ U.ownsRow 0 50 7 v2 b.l2.length (ors (osl b.l2)) ∧ U.heap[A]? = some (.cells (ecs ez).toArray 58 (0, 0)) ∧ P0 b es) ∨
  (∃ a l, n = l.length ∧ (a.sd = 1 ∨ a.sd = 2) ∧ U.heap[A]? = some (.cells (ecs a).toArray 58 (0, 0)) ∧ Sd U F p c l ∧ Pr a left l es)
theorem Hl.on {b : Bs} {A : Nat} {F : Nat → Prop} {v1 v2 : Value} {U V : World} {left : Int} {p : Option Addr} {n c : Nat} {es : List Ev} (h : Hl b A F v1 v2 U left p n c es) (hb : Below U.heap.size U V) : Hl b A F v1 v2 V left p n c es := by
  rcases h with ⟨h1, h2, h3, h4⟩ | ⟨a, l, h1, h2, h3, h4, h5⟩
  · exact .inl ⟨own_on h1 hb, own_on h2 hb, row_on h3 hb, h4⟩
  · exact .inr ⟨a, l, h1, h2, row_on h3 hb, h4.on hb, h5⟩
end
section
open Go.RowKit Go.Deep Go.Shelf
set_option linter.unusedVariables false
set_option linter.unusedSimpArgs false
set_option maxHeartbeats 8000000
set_option maxRecDepth 100000
attribute [local go_sem ↓] Go.wp_at_zero Go.wp_at_succ
/-- a block of the code. -/
def blk (n : Nat) : Code → Option Code
  | .block k c => if k = n then some (.block k c) else blk n c
  | .seq a b => (blk n a).or (blk n b)
  | .loop c => blk n c
  | .scope c => blk n c
  | .cond _ a b => (blk n a).or (blk n b)
  | _ => none
end
end
end Go.Proofs.Ytalgndgoedlpoaa
