/-
  A book that can be stays one, by all that is asked of one.
-/
import Derived.Test.YtojmcfkbekodpaaKi
namespace Go.Proofs.Ytojmcfkbekodpaa
open Go.RowKit Go.Deep Go.Shelf
set_option linter.unusedVariables false
set_option linter.unusedSimpArgs false
/-- an order that may stand in a book. -/
structure OrS (x : Or) : Prop where
  id : 1 ≤ x.id
  ty : x.ty = 1 ∨ x.ty = 5
  p0 : 0 ≤ x.pr
  p1 : x.pr < 262144
  vi : 1 ≤ x.vi
  hi : 0 ≤ x.hi
  k0 : 0 ≤ x.pk
  al : x.vi + x.hi ≤ 4294967295
  k1 : x.pk ≤ 4294967295
  no : x.pk = 0 → x.hi = 0
  so : x.pk ≠ 0 → x.vi ≤ x.pk ∧ x.vi + x.hi ≤ 256 * x.pk
/-- all that is asked of a book besides. -/
structure Snd (b : Bs) : Prop where
  cap : 1 ≤ b.cap
  me0 : 0 ≤ b.meet
  me1 : b.meet ≤ 3
  ok : ∀ S, ∀ y ∈ b.sl S, OrS y.2
  ap : ∀ y ∈ b.sl 1, ∀ z ∈ b.sl 2, y.2.pr < z.2.pr
/-- fewer of the same orders, at the same prices. -/
structure Sbp (b b' : Bs) : Prop where
  cap : b'.cap = b.cap
  meet : b'.meet = b.meet
  sub : ∀ S, ∀ y ∈ b'.sl S, ∃ z ∈ b.sl S, z.2.pr = y.2.pr ∧ (OrS z.2 → OrS y.2)
theorem Sbp.refl (b : Bs) : Sbp b b := ⟨rfl, rfl, fun S y hy => ⟨y, hy, rfl, fun h => h⟩⟩
theorem Sbp.trans {a b c : Bs} (h : Sbp a b) (k : Sbp b c) : Sbp a c :=
  ⟨k.cap.trans h.cap, k.meet.trans h.meet, fun S y hy => by
    obtain ⟨z, hz, e, f⟩ := k.sub S y hy
    obtain ⟨u, hu, e', f'⟩ := h.sub S z hz
    exact ⟨u, hu, e'.trans e, fun h => f (f' h)⟩⟩
theorem Sbp.told {a b : Bs} (h : Sbp a b) : Sbp a b.told := ⟨h.cap, h.meet, h.sub⟩
theorem Sbp.snd {b b' : Bs} (h : Sbp b b') (k : Snd b) : Snd b' :=
  ⟨by rw [h.cap]; exact k.cap, by rw [h.meet]; exact k.me0, by rw [h.meet]; exact k.me1, fun S y hy => by
    obtain ⟨z, hz, _, f⟩ := h.sub S y hy
    exact f (k.ok S z hz), fun y hy z hz => by
    obtain ⟨u, hu, e, _⟩ := h.sub 1 y hy
    obtain ⟨v, hv, e', _⟩ := h.sub 2 z hz
    rw [← e, ← e']
    exact k.ap u hu v hv⟩
theorem Sbp.put {b b1 : Bs} (h : Sbp b b1) {s : Int} (hs : s = 1 ∨ s = 2) {p : Option Addr} {c : Nat} {l : LO} (h1 : ∀ y ∈ l, ∃ z ∈ b.sl s, z.2.pr = y.2.pr ∧ (OrS z.2 → OrS y.2)) : Sbp b (b1.put s p c l) := by
  refine ⟨(put_cap _ _ _ _ _).trans h.cap, (put_meet _ _ _ _ _).trans h.meet, fun S y hy => ?_⟩
  rw [put_sl' _ _ _ _ _ _ hs] at hy
  split at hy
  · rename_i e; rw [sl_iff b e]; exact h1 y hy
  · exact h.sub S y hy
theorem Sbp.del {b : Bs} {s : Int} (hs : s = 1 ∨ s = 2) (i : Nat) : Sbp b (b.del s i) :=
  (Sbp.refl b).put hs (fun y hy => ⟨y, List.mem_of_mem_eraseIdx hy, rfl, fun h => h⟩)
theorem less_s {x : Or} {q : Int} (h : OrS x) (hq : 0 ≤ q) (hA : 0 < x.vi - q) : OrS (x.less q) := by
  obtain ⟨a, b, c, d, e, f, g, i, j, k, l⟩ := h
  refine ⟨a, b, c, d, ?_, f, g, ?_, j, k, fun hp => ?_⟩
  · show 1 ≤ x.vi - q; omega
  · show x.vi - q + x.hi ≤ 4294967295; omega
  · have := l hp
    show x.vi - q ≤ x.pk ∧ x.vi - q + x.hi ≤ 256 * x.pk
    omega
theorem shn_s {x : Or} {q : Int} (h : OrS x) (hB : ¬ x.hi = 0) : OrS (x.less q).shn := by
  obtain ⟨a, b, c, d, e, f, g, i, j, k, l⟩ := h
  have hp : x.pk ≠ 0 := fun h => hB (k h)
  have hl := l hp
  have e1 : (x.less q).shn.vi = (shw x.pk x.hi).1 := rfl
  have e2 : (x.less q).shn.hi = (shw x.pk x.hi).2 := rfl
  have e3 : (x.less q).shn.pk = x.pk := rfl
  have hw : 1 ≤ (shw x.pk x.hi).1 ∧ 0 ≤ (shw x.pk x.hi).2 ∧ (shw x.pk x.hi).1 + (shw x.pk x.hi).2 = x.hi ∧ (shw x.pk x.hi).1 ≤ x.pk := by
    unfold shw
    split
    · rename_i e; simp only; omega
    · rename_i e; simp only
      have : ¬ x.hi < x.pk := fun h => e (.inr h)
      omega
  refine ⟨a, b, c, d, by rw [e1]; omega, by rw [e2]; omega, g, by rw [e1, e2]; omega, j, fun h => absurd h hp, fun _ => ?_⟩
  rw [e1, e2, e3]
  omega
theorem trl_sbp {S : Int} {f : Nat} {x : Or} {r : LO} {q : Int} (hq : 0 ≤ q) : ∀ y ∈ trl S f x r q, ∃ z ∈ ((f, x) :: r : LO), z.2.pr = y.2.pr ∧ (OrS z.2 → OrS y.2) := by
  unfold trl
  intro y hy
  split at hy
  · rename_i hA
    rcases List.mem_cons.1 hy with rfl | hy
    · exact ⟨(f, x), by simp, rfl, fun h => less_s h hq hA⟩
    · exact ⟨y, by simp [hy], rfl, fun h => h⟩
  · split at hy
    · exact ⟨y, by simp [hy], rfl, fun h => h⟩
    · rename_i hB
      have hy' := (agn_perm S _).mem_iff.1 hy
      rcases List.mem_cons.1 hy' with rfl | hy'
      · exact ⟨(f, x), by simp, rfl, fun h => shn_s h hB⟩
      · exact ⟨y, by simp [hy'], rfl, fun h => h⟩
theorem mtB_sbp {b : Bs} {o : Or} {s q : Int} {f : Nat} {x : Or} {r : LO} (hs : s = 1 ∨ s = 2) (hl : b.sl (oth s) = (f, x) :: r) (hq : 0 < q) (hv : 0 < x.vi) : Sbp b (mtB b o s q f x r).1 := by
  have hS := oth_side hs
  unfold mtB
  split
  · have h0 : Sbp b (trb b x (min q x.vi)) := by
      unfold trb
      split
      · exact (Sbp.refl b).told
      · split
        · exact (Sbp.refl b).told
        · exact (Sbp.refl b).told.told
    refine h0.put hS ?_
    rw [hl]
    exact trl_sbp (by omega)
  · split
    · exact (Sbp.refl b).told
    · split
      · exact (Sbp.del hS 0).told
      · exact (Sbp.del hS 0).told.told
/-- what is met to the end. -/
theorem cms_fin {o : Or} {s : Int} (hs : s = 1 ∨ s = 2) : ∀ (n : Nat) (b : Bs) (es : List Ev) (q : Int), Vb b → 0 ≤ q → mes b s q < n →
    ¬ (0 < (cms o s n (b, es, q)).2.2 ∧ mts (cms o s n (b, es, q)).1 o s = true) ∧ Sbp b (cms o s n (b, es, q)).1
  | 0, b, es, q, v, hq, h => absurd h (Nat.not_lt_zero _)
  | n + 1, b, es, q, v, hq, h => by
    by_cases hc : 0 < q ∧ mts b o s = true
    · obtain ⟨f, x, r, hl⟩ := mts_cons hc.2
      rw [cms_step hc hl]
      obtain ⟨v', m', _, q0, q1⟩ := v.met (o := o) hs hl hc.1
      have ih := cms_fin (o := o) hs n (mtB b o s q f x r).1 (es ++ (mtB b o s q f x r).2.1) (mtB b o s q f x r).2.2 v' q0 (by omega)
      exact ⟨ih.1, (mtB_sbp hs hl hc.1 (v.ok (oth s) (f, x) (by rw [hl]; simp)).1).trans ih.2⟩
    · rw [cms_end hc]
      exact ⟨hc, Sbp.refl b⟩
/-- what meets nothing stands apart. -/
theorem mts_no {b : Bs} {o : Or} {s : Int} (v : Vb b) (hs : s = 1 ∨ s = 2) (h : mts b o s = false) : ∀ y ∈ b.sl (oth s), btt s y.2.pr o.pr = true := by
  have hS := oth_side hs
  have hsr := v.srt (oth s) hS
  unfold mts at h
  intro y hy
  cases hl : b.sl (oth s) with
  | nil => rw [hl] at hy; simp at hy
  | cons z r =>
    rw [hl] at h hy hsr
    have h0 : btt s z.2.pr o.pr = true := by
      unfold mtl rch at h
      simp at h
      exact h.2
    rcases List.mem_cons.1 hy with rfl | hy
    · exact h0
    · rw [srt_pw] at hsr
      have := (List.pairwise_cons.1 hsr).1 y hy
      rcases hs with rfl | rfl
      · simp [btt, oth] at h0 this ⊢; omega
      · simp [btt, oth] at h0 this ⊢; omega
/-- an order rests where it meets nothing. -/
theorem Snd.ins {b : Bs} (k : Snd b) (v : Vb b) {s : Int} (hs : s = 1 ∨ s = 2) {p : Option Addr} {c i : Nat} {x : Nat × Or} (hx : OrS x.2) (hm : ∀ y ∈ b.sl (oth s), btt s y.2.pr x.2.pr = true) : Snd (b.put s p c (Go.Proofs.Ytojmcfkbekodpaa.ins i x (b.sl s))) := by
  refine ⟨by rw [put_cap]; exact k.cap, by rw [put_meet]; exact k.me0, by rw [put_meet]; exact k.me1, fun S y hy => ?_, fun y hy z hz => ?_⟩
  · rw [put_sl' _ _ _ _ _ _ hs] at hy
    split at hy
    · rcases List.mem_cons.1 (ins_perm.mem_iff.1 hy) with rfl | hy
      · exact hx
      · exact k.ok s y hy
    · exact k.ok S y hy
  · rcases hs with rfl | rfl
    · rw [put_sl' _ _ _ _ _ _ (.inl rfl)] at hy hz
      simp at hy hz
      rcases List.mem_cons.1 (ins_perm.mem_iff.1 hy) with rfl | hy
      · have := hm z (by simpa [oth] using hz)
        simp [btt] at this; exact this
      · exact k.ap y hy z hz
    · rw [put_sl' _ _ _ _ _ _ (.inr rfl)] at hy hz
      simp at hy hz
      rcases List.mem_cons.1 (ins_perm.mem_iff.1 hz) with rfl | hz
      · have := hm y (by simpa [oth] using hy)
        simp [btt] at this; exact this
      · exact k.ap y hy z hz
theorem Snd.hgh {b : Bs} (k : Snd b) (i : Int) : Snd (b.hgh i) := ⟨k.cap, k.me0, k.me1, k.ok, k.ap⟩
theorem Snd.told {b : Bs} (k : Snd b) : Snd b.told := ⟨k.cap, k.me0, k.me1, k.ok, k.ap⟩
/-- an order that comes is one that may rest. -/
structure OrC (o : Or) (q : Int) : Prop where
  id : 1 ≤ o.id
  p0 : 0 ≤ o.pr
  p1 : o.pr < 262144
  k0 : 0 ≤ o.pk
  k1 : o.pk ≠ 0 → o.pk ≤ q ∧ q ≤ 256 * o.pk
theorem Took.snd {b : Bs} {es : List Ev} {o : Or} {s q : Int} {b' : Bs} {es' : List Ev} (h : Took b es o s q b' es') (v : Vb b) (k : Snd b) (hs : s = 1 ∨ s = 2) (q0 : 0 ≤ q) (q1 : q < 4294967296) (hc : OrC o q) : Snd b' := by
  rcases h with ⟨_, _, rfl, rfl⟩ | ⟨_, n, hcm⟩
  · exact (k.hgh _).told.told
  · have v0 : Vb (b.hgh o.id).told := (v.hgh _).told
    obtain ⟨f1, f2⟩ := cms_fin (o := o) hs (mes b s q + 1) (b.hgh o.id).told (es ++ [(evA o s q).num (nx b.seq)]) q v0 q0 (Nat.lt_succ_self _)
    obtain ⟨_, g2, _, g4, g5⟩ := cms_good (o := o) hs (mes b s q + 1) (b.hgh o.id).told (es ++ [(evA o s q).num (nx b.seq)]) q v0 q0
    have k1 := f2.snd (k.hgh _).told
    obtain ⟨c, hcc⟩ : ∃ c, cms o s (mes b s q + 1) ((b.hgh o.id).told, es ++ [(evA o s q).num (nx b.seq)], q) = c := ⟨_, rfl⟩
    rw [hcc] at f1 g2 g4 g5 k1 hcm
    rcases hcm with ⟨_, rfl, rfl⟩ | ⟨hq, hr, rfl, p', c', blk, _, rfl⟩ | ⟨hq, hr, rfl, rfl⟩
    · exact k1
    · have hm : mts c.1 o s = false := by
        cases hh : mts c.1 o s with
        | false => rfl
        | true => exact absurd ⟨hq, hh⟩ f1
      refine k1.ins g2 hs ?_ (mts_no g2 hs hm)
      have hty : o.ty = 1 ∨ o.ty = 5 := by simpa [rst] using hr
      have k0 := hc.k0
      have kk := hc.k1
      have hw : 1 ≤ (shw o.pk c.2.2).1 ∧ 0 ≤ (shw o.pk c.2.2).2 ∧ (shw o.pk c.2.2).1 + (shw o.pk c.2.2).2 = c.2.2 ∧ (o.pk = 0 → (shw o.pk c.2.2).2 = 0) ∧ (o.pk ≠ 0 → (shw o.pk c.2.2).1 ≤ o.pk) := by
        unfold shw
        split
        · rename_i e
          refine ⟨by show 1 ≤ c.2.2; omega, Int.le_refl _, by show c.2.2 + 0 = c.2.2; omega, fun _ => rfl, fun h => ?_⟩
          show c.2.2 ≤ o.pk
          rcases e with e | e
          · exact absurd e h
          · omega
        · rename_i e
          have u1 : ¬ c.2.2 < o.pk := fun h => e (.inr h)
          have u2 : ¬ o.pk = 0 := fun h => e (.inl h)
          exact ⟨by show 1 ≤ o.pk; omega, by show 0 ≤ c.2.2 - o.pk; omega, by show o.pk + (c.2.2 - o.pk) = c.2.2; omega, fun h => absurd h u2, fun _ => Int.le_refl _⟩
      refine ⟨hc.id, hty, hc.p0, hc.p1, hw.1, hw.2.1, k0, ?_, ?_, hw.2.2.2.1, fun hp => ⟨hw.2.2.2.2 hp, ?_⟩⟩
      · show (shw o.pk c.2.2).1 + (shw o.pk c.2.2).2 ≤ 4294967295
        rw [hw.2.2.1]; omega
      · show o.pk ≤ 4294967295
        by_cases e : o.pk = 0
        · omega
        · have := kk e; omega
      · show (shw o.pk c.2.2).1 + (shw o.pk c.2.2).2 ≤ 256 * o.pk
        have := kk hp
        rw [hw.2.2.1]; omega
    · exact k1.told
theorem chO_more {c : Cm} (h : chO c = 0) (i0 : 0 ≤ c.id) : 1 ≤ c.id ∧ 0 ≤ c.pr ∧ c.pr < 262144 ∧ (c.pk ≠ 0 → c.pk ≤ c.qt ∧ c.qt ≤ 256 * c.pk) := by
  unfold chO at h
  split at h
  · cases h
  · split at h
    · cases h
    · split at h
      · cases h
      · rename_i h3
        split at h
        · cases h
        · split at h
          · cases h
          · rename_i h5
            split at h
            · cases h
            · rename_i h6
              have hp : isPr c.pr = true := by
                cases e : isPr c.pr with
                | true => rfl
                | false => exact absurd (.inl e) h3
              simp [isPr] at hp
              refine ⟨by omega, hp.1, hp.2, fun hk => ?_⟩
              have hf : pkF c = true := by
                cases e : pkF c with
                | true => rfl
                | false => exact absurd ⟨hk, e⟩ h5
              simp [pkF] at hf
              exact ⟨hf.1.2, hf.2⟩
theorem rfs_chk {b : Bs} {c : Cm} (h : rfs b c = 0) : chk c = 0 := by
  unfold rfs at h
  split at h
  · cases h
  · split at h
    · cases h
    · split at h
      · exact h
      · rename_i h3
        exact Classical.byContradiction fun e => h3 (.inl e)
theorem Did.snd {b : Bs} {c : Cm} {b' : Bs} {es' : List Ev} (h : Did b c b' es') (g : Gb b) (k : Snd b) (hc : CmOk c) : Snd b' := by
  have hord : (c.kd = 1 ∨ c.kd = 3) → rfs b c = 0 → OrC (ord (cmN b c)) c.qt := fun hk h0 => by
    have e1 : (ord (cmN b c)).id = c.id := by show (cmN b c).id = c.id; unfold cmN; split <;> rfl
    have e2 : (ord (cmN b c)).pr = c.pr := by show (cmN b c).pr = c.pr; unfold cmN; split <;> rfl
    have e3 : (ord (cmN b c)).pk = c.pk := by show (cmN b c).pk = c.pk; unfold cmN; split <;> rfl
    have hz := rfs_chk h0
    have hm : 1 ≤ c.id ∧ 0 ≤ c.pr ∧ c.pr < 262144 ∧ (c.pk ≠ 0 → c.pk ≤ c.qt ∧ c.qt ≤ 256 * c.pk) := by
      rcases hk with hk | hk
      · unfold chk at hz
        rw [if_pos hk] at hz
        exact chO_more hz hc.id0
      · unfold chk at hz
        rw [if_neg (by omega), if_pos hk] at hz
        exact chO_more (c := { c with sd := 1, ty := 1 }) hz hc.id0
    exact ⟨by rw [e1]; exact hm.1, by rw [e2]; exact hm.2.1, by rw [e2]; exact hm.2.2.1, by rw [e3]; exact hc.pk0, by rw [e3]; exact hm.2.2.2⟩
  rcases h with ⟨_, rfl, rfl⟩ | ⟨_, _, o, s, kk, i, hf, rfl, rfl⟩ | ⟨h0, k1, ht⟩ | ⟨h0, k3, o, s, kk, i, hf, ht⟩
  · exact k.told
  · exact ((Sbp.del hf.side i).snd k).told
  · have e : cmN b c = c := by unfold cmN; rw [if_neg (by omega)]
    rcases rfs_zero h0 with ⟨k', _⟩ | ⟨_, hs, q1, q2⟩ | ⟨k', _⟩
    · omega
    · exact ht.snd g.vb k (by rw [e]; exact hs) (by omega) (by omega) (hord (.inl k1) h0)
    · omega
  · rcases rfs_zero h0 with ⟨k', _⟩ | ⟨k', _⟩ | ⟨_, _, q1, q2⟩
    · omega
    · omega
    · have hsd : (cmN b c).sd = s := by unfold cmN; rw [if_pos k3, hf.ff]
      exact ht.snd (g.vb.del hf.side i).told ((Sbp.del hf.side i).snd k).told (by rw [hsd]; exact hf.side) (by omega) (by omega) (hord (.inr k3) h0)
theorem Fr.snd {b : Bs} {cap meet : Int} (h : Fr b cap meet) (hc : cfg cap meet = true) : Snd b := by
  have hc' : 1 ≤ cap ∧ cap ≤ 4096 ∧ 0 ≤ meet ∧ meet ≤ 3 := of_decide_eq_true hc
  have hsl : ∀ S, b.sl S = [] := fun S => by unfold Bs.sl; split; exact h.l1; exact h.l2
  obtain ⟨n1, n2, _, _⟩ := h.num
  exact ⟨by omega, by omega, by omega, fun S y hy => (by rw [hsl] at hy; simp at hy), fun y hy => (by rw [hsl] at hy; simp at hy)⟩
end Go.Proofs.Ytojmcfkbekodpaa
