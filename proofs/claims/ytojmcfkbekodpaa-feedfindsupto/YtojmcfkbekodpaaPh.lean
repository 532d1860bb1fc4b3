/-
  A book does what it is told.
-/
import Derived.Test.YtojmcfkbekodpaaQh
import Derived.Test.YtojmcfkbekodpaaPe
namespace Go.Proofs.Ytojmcfkbekodpaa
open Go.RowKit Go.Deep Go.Shelf
set_option linter.unusedVariables false
set_option linter.unusedSimpArgs false
set_option maxHeartbeats 8000000
set_option maxRecDepth 100000
/-- an order is found. -/
structure Fd (b : Bs) (id : Int) (o : Or) (s : Int) (k i : Nat) : Prop where
  ff : fo b id = (o, s, true)
  fs : s = (k : Int) + 1
  fk : k < 2
  fi : fnd id (b.sl s) = (i : Int)
  lt : i < (b.sl s).length
  mem : ∃ j, (j, o) ∈ b.sl s
theorem fo_true {b : Bs} {id : Int} (h : (fo b id).2.2 = true) : ∃ o s k i, Fd b id o s k i := by
  unfold fo at h
  split at h
  · rename_i h1
    have hg := fnd_ge id b.l1
    refine ⟨(b.l1[(fnd id b.l1).toNat]'(by omega)).2, 1, 0, (fnd id b.l1).toNat, ?_, rfl, by omega, ?_, ?_, ?_⟩
    · unfold fo; rw [dif_pos h1]
    · show fnd id b.l1 = _; omega
    · show _ < b.l1.length; omega
    · exact ⟨(b.l1[(fnd id b.l1).toNat]'(by omega)).1, List.getElem_mem _⟩
  · rename_i h1
    split at h
    · rename_i h2
      have hg := fnd_ge id b.l2
      refine ⟨(b.l2[(fnd id b.l2).toNat]'(by omega)).2, 2, 1, (fnd id b.l2).toNat, ?_, rfl, by omega, ?_, ?_, ?_⟩
      · unfold fo; rw [dif_neg h1, dif_pos h2]
      · show fnd id b.l2 = _; omega
      · show _ < b.l2.length; omega
      · exact ⟨(b.l2[(fnd id b.l2).toNat]'(by omega)).1, List.getElem_mem _⟩
    · cases h
theorem Fd.side {b : Bs} {id : Int} {o : Or} {s : Int} {k i : Nat} (h : Fd b id o s k i) : s = 1 ∨ s = 2 := by
  have h1 := h.fs
  have h2 := h.fk
  omega
theorem chO_zero {c : Cm} (h : chO c = 0) : (c.sd = 1 ∨ c.sd = 2) ∧ 1 ≤ c.qt ∧ c.qt ≤ 4294967295 := by
  unfold chO at h
  split at h
  · cases h
  · rename_i h1
    split at h
    · cases h
    · split at h
      · cases h
      · split at h
        · cases h
        · rename_i h4
          refine ⟨?_, by omega, by omega⟩
          simp only [isSd, Bool.or_eq_false_iff, beq_eq_false_iff_ne] at h1
          omega
/-- what is not refused. -/
theorem rfs_zero {b : Bs} {c : Cm} (h : rfs b c = 0) : (c.kd = 2 ∧ ∃ o s k i, Fd b c.tg o s k i) ∨ (c.kd = 1 ∧ (c.sd = 1 ∨ c.sd = 2) ∧ 1 ≤ c.qt ∧ c.qt ≤ 4294967295) ∨ (c.kd = 3 ∧ (∃ o s k i, Fd b c.tg o s k i) ∧ 1 ≤ c.qt ∧ c.qt ≤ 4294967295) := by
  unfold rfs at h
  split at h
  · cases h
  · rename_i h1
    split at h
    · cases h
    · rename_i h2
      have hfo : c.kd ≠ 1 → (fo b c.tg).2.2 = true := fun hk => by
        cases hf : (fo b c.tg).2.2 with
        | true => rfl
        | false => exact absurd ⟨hk, hf⟩ h2
      by_cases k1 : c.kd = 1
      · have e : chk c = chO c := by simp [chk, k1]
        split at h
        · rw [e] at h
          exact .inr (.inl ⟨k1, chO_zero h⟩)
        · rename_i h3
          have : chO c = 0 := by
            rw [← e]
            by_cases hc : chk c = 0
            · exact hc
            · exact absurd (.inl hc) h3
          exact .inr (.inl ⟨k1, chO_zero this⟩)
      · by_cases k2 : c.kd = 2
        · exact .inl ⟨k2, fo_true (hfo k1)⟩
        · by_cases k3 : c.kd = 3
          · have e : chk c = chO { c with sd := 1, ty := 1 } := by simp [chk, k3]
            have h0 : chO { c with sd := 1, ty := 1 } = 0 := by
              rw [← e]
              split at h
              · exact h
              · rename_i h3
                by_cases hc : chk c = 0
                · exact hc
                · exact absurd (.inl hc) h3
            exact .inr (.inr ⟨k3, fo_true (hfo k1), (chO_zero h0).2⟩)
          · exact absurd (by simp [chk, k1, k2, k3]) h1
theorem Td.neR {w0 : World} {G : Nat → Prop} {T B R : Nat} {b : Bs} {ve : Value} {es : List Ev} {U : World} {c : Array Value} {t : TypeId} (h : Td w0 G T B b ve es U) (hR : U.heap[R]? = some (.cells c t (0, 0))) (h1 : t ≠ 113 ∧ t ≠ 100 ∧ t ≠ 86 ∧ t ≠ 80 ∧ t ≠ 45) : ¬ gfp b T B ve R := by
  rintro ((e | e | e) | e)
  · exact row_ne hR h.tn.row h1.2.2.2.1 e
  · exact row_ne hR h.tn.bm.row h1.1 e
  · obtain ⟨c', e'⟩ := own_ty h.tn.ev e; exact row_ne hR e' h1.2.2.2.2 rfl
  · exact h.tn.bm.ne hR h1.1 h1.2.1 h1.2.2.1 e rfl
/-- an order is struck out. -/
theorem Td.fewer {w0 : World} {G : Nat → Prop} {T B : Nat} {b : Bs} {ve : Value} {es es' : List Ev} {w w' : World} {s : Int} {i : Nat} (hs : s = 1 ∨ s = 2) (h : Td w0 G T B b ve es w) (ht : Told w T B (b.del s i).told ve es' (cfp b T B ve s) w') : ∃ ve', Td w0 G T B (b.del s i).told ve' es' w' ∧ Kp (gfp b T B ve) w w' := by
  obtain ⟨ve', h1, h2, h3⟩ := ht
  have hin : ∀ j, cfp b T B ve s j → gfp b T B ve j := by
    rintro j (h' | h')
    · exact .inl h'
    · exact .inr ((fp_iff hs).2 (.inr (.inl h')))
  have sz := h.kp.size
  refine ⟨ve', ⟨h1, h.keep h3 hin, ?_⟩, h3.mono (fun j _ hj => hin j hj)⟩
  have e1 := b.put_sl s hs (b.sp s) (b.sc s) ((b.sl s).eraseIdx i)
  have e2 := b.put_so s hs (b.sp s) (b.sc s) ((b.sl s).eraseIdx i)
  rintro j ((e | e | e) | e)
  · exact h.fr j (.inl (.inl e))
  · exact h.fr j (.inl (.inr (.inl e)))
  · rcases h2 j e with h' | h'
    · exact h.fr j (.inl (.inr (.inr h')))
    · exact .inr (by omega)
  · have e' : (b.put s (b.sp s) (b.sc s) ((b.sl s).eraseIdx i)).fp B j := e
    refine h.fr j (.inr ((fp_iff hs).2 ?_))
    rcases (fp_iff hs).1 e' with e | e | e | e | e
    · exact .inl e
    · rw [e1.2.1] at e; exact .inr (.inl e)
    · rw [e2.2.1] at e; exact .inr (.inr (.inl e))
    · rw [e1.1] at e
      obtain ⟨y, hy, rfl⟩ := List.mem_map.1 e
      exact .inr (.inr (.inr (.inl (List.mem_map.2 ⟨y, List.mem_of_mem_eraseIdx hy, rfl⟩))))
    · rw [e2.1] at e; exact .inr (.inr (.inr (.inr e)))
/-- what became of a book when it did what it was told. -/
def Did (b : Bs) (c : Cm) (b' : Bs) (es' : List Ev) : Prop :=
  (rfs b c ≠ 0 ∧ b' = b.told ∧ es' = [(evR c (rfs b c)).num (nx b.seq)]) ∨
  (rfs b c = 0 ∧ c.kd = 2 ∧ ∃ o s k i, Fd b c.tg o s k i ∧ b' = (b.del s i).told ∧ es' = [(evC c.tg (o.vi + o.hi) 1).num (nx b.seq)]) ∨
  (rfs b c = 0 ∧ c.kd = 1 ∧ Took b [] (ord (cmN b c)) (cmN b c).sd c.qt b' es') ∨
  (rfs b c = 0 ∧ c.kd = 3 ∧ ∃ o s k i, Fd b c.tg o s k i ∧ Took (b.del s i).told [(evC c.tg (o.vi + o.hi) 2).num (nx b.seq)] (ord (cmN b c)) (cmN b c).sd c.qt b' es')
end Go.Proofs.Ytojmcfkbekodpaa
namespace Go.Proofs.Ytojmcfkbekodpaa
open Go.RowKit Go.Deep Go.Shelf
set_option linter.unusedVariables false
set_option linter.unusedSimpArgs false
theorem put_seq (b : Bs) (s : Int) (p : Option Addr) (c : Nat) (l : LO) : (b.put s p c l).seq = b.seq := by unfold Bs.put; split <;> rfl
theorem put_high (b : Bs) (s : Int) (p : Option Addr) (c : Nat) (l : LO) : (b.put s p c l).high = b.high := by unfold Bs.put; split <;> rfl
theorem put_cap (b : Bs) (s : Int) (p : Option Addr) (c : Nat) (l : LO) : (b.put s p c l).cap = b.cap := by unfold Bs.put; split <;> rfl
/-- fewer of the same orders. -/
structure Sb (b b' : Bs) : Prop where
  cap : b'.cap = b.cap
  high : b'.high = b.high
  sub : ∀ S, ∀ y ∈ b'.sl S, ∃ z ∈ b.sl S, z.2.id = y.2.id
  len : ∀ S, (b'.sl S).length ≤ (b.sl S).length
theorem Sb.refl (b : Bs) : Sb b b := ⟨rfl, rfl, fun S y hy => ⟨y, hy, rfl⟩, fun S => Nat.le_refl _⟩
theorem Sb.trans {a b c : Bs} (h : Sb a b) (k : Sb b c) : Sb a c :=
  ⟨k.cap.trans h.cap, k.high.trans h.high, fun S y hy => by
    obtain ⟨z, hz, e⟩ := k.sub S y hy
    obtain ⟨u, hu, e'⟩ := h.sub S z hz
    exact ⟨u, hu, e'.trans e⟩, fun S => Nat.le_trans (k.len S) (h.len S)⟩
theorem Sb.told {a b : Bs} (h : Sb a b) : Sb a b.told := ⟨h.cap, h.high, h.sub, h.len⟩
theorem put_sl' (b : Bs) (s S : Int) (p : Option Addr) (c : Nat) (l : LO) (hs : s = 1 ∨ s = 2) : (b.put s p c l).sl S = if (S = 1 ↔ s = 1) then l else b.sl S := by
  rcases hs with rfl | rfl
  · by_cases e : S = 1 <;> simp [Bs.put, Bs.sl, e]
  · by_cases e : S = 1 <;> simp [Bs.put, Bs.sl, e]
theorem sl_iff (b : Bs) {s S : Int} (h : S = 1 ↔ s = 1) : b.sl S = b.sl s := by
  unfold Bs.sl
  by_cases e : s = 1
  · simp [e, h.2 e]
  · have : S ≠ 1 := fun x => e (h.1 x)
    simp [e, this]
theorem Sb.put {b b1 : Bs} (h : Sb b b1) {s : Int} (hs : s = 1 ∨ s = 2) {p : Option Addr} {c : Nat} {l : LO} (h1 : ∀ y ∈ l, ∃ z ∈ b.sl s, z.2.id = y.2.id) (h2 : l.length ≤ (b.sl s).length) : Sb b (b1.put s p c l) := by
  refine ⟨(put_cap _ _ _ _ _).trans h.cap, (put_high _ _ _ _ _).trans h.high, fun S y hy => ?_, fun S => ?_⟩
  · rw [put_sl' _ _ _ _ _ _ hs] at hy
    split at hy
    · rename_i e; rw [sl_iff b e]; exact h1 y hy
    · exact h.sub S y hy
  · rw [put_sl' _ _ _ _ _ _ hs]
    split
    · rename_i e; rw [sl_iff b e]; exact h2
    · exact h.len S
theorem Sb.del {b : Bs} {s : Int} (hs : s = 1 ∨ s = 2) (i : Nat) : Sb b (b.del s i) :=
  (Sb.refl b).put hs (fun y hy => ⟨y, List.mem_of_mem_eraseIdx hy, rfl⟩) (List.eraseIdx_sublist _ _).length_le
theorem trl_sub {S : Int} {f : Nat} {x : Or} {r : LO} {q : Int} : (∀ y ∈ trl S f x r q, ∃ z ∈ ((f, x) :: r : LO), z.2.id = y.2.id) ∧ (trl S f x r q).length ≤ ((f, x) :: r : LO).length := by
  unfold trl
  split
  · refine ⟨fun y hy => ?_, by simp⟩
    rcases List.mem_cons.1 hy with rfl | hy
    · exact ⟨(f, x), by simp, rfl⟩
    · exact ⟨y, by simp [hy], rfl⟩
  · split
    · exact ⟨fun y hy => ⟨y, by simp [hy], rfl⟩, by simp⟩
    · refine ⟨fun y hy => ?_, by rw [agn_len]; simp⟩
      have hy' := (agn_perm S _).mem_iff.1 hy
      rcases List.mem_cons.1 hy' with rfl | hy'
      · exact ⟨(f, x), by simp, rfl⟩
      · exact ⟨y, by simp [hy'], rfl⟩
theorem mtB_sb {b : Bs} {o : Or} {s q : Int} {f : Nat} {x : Or} {r : LO} (hs : s = 1 ∨ s = 2) (hl : b.sl (oth s) = (f, x) :: r) : Sb b (mtB b o s q f x r).1 := by
  have hS := oth_side hs
  unfold mtB
  split
  · have h0 : Sb b (trb b x (min q x.vi)) := by
      unfold trb
      split
      · exact (Sb.refl b).told
      · split
        · exact (Sb.refl b).told
        · exact (Sb.refl b).told.told
    refine h0.put hS ?_ ?_
    · rw [hl]; exact trl_sub.1
    · rw [hl]; exact trl_sub.2
  · split
    · exact (Sb.refl b).told
    · split
      · exact (Sb.del hS 0).told
      · exact (Sb.del hS 0).told.told
/-- the numbers of what is told, one by one. -/
def chN : Int → Int → List Ev → Option (Int × Int)
  | s, h, [] => some (s, h)
  | s, h, e :: es => if e.sq = nx s ∧ (e.kd = 1 → h < e.id) then chN (nx s) (if e.kd = 1 then e.id else h) es else none
theorem chN_append {s h : Int} {a b : List Ev} {s' h' : Int} (k : chN s h a = some (s', h')) : chN s h (a ++ b) = chN s' h' b := by
  induction a generalizing s h with
  | nil => simp only [chN, Option.some.injEq, Prod.mk.injEq] at k; rw [← k.1, ← k.2]; rfl
  | cons e es ih =>
    simp only [chN, List.cons_append] at k ⊢
    split at k
    · rename_i hc; rw [if_pos hc]; exact ih k
    · cases k
theorem mtB_ch {b : Bs} {o : Or} {s q : Int} {f : Nat} {x : Or} {r : LO} : chN b.seq b.high (mtB b o s q f x r).2.1 = some ((mtB b o s q f x r).1.seq, b.high) := by
  unfold mtB
  split
  · simp only [put_seq, trb, tre]
    split
    · simp [chN, evT, Ev.num, Bs.told]
    · split
      · simp [chN, evT, Ev.num, Bs.told]
      · simp [chN, evT, evF, Ev.num, Bs.told]
  · split
    · simp [chN, evC, Ev.num, Bs.told]
    · split
      · simp [chN, evC, Ev.num, Bs.told, Bs.del, put_seq]
      · simp [chN, evC, Ev.num, Bs.told, Bs.del, put_seq]
theorem cms_good {o : Or} {s : Int} (hs : s = 1 ∨ s = 2) : ∀ (n : Nat) (b : Bs) (es : List Ev) (q : Int), Vb b → 0 ≤ q →
    (∀ s0 h0, chN s0 h0 es = some (b.seq, b.high) → chN s0 h0 (cms o s n (b, es, q)).2.1 = some ((cms o s n (b, es, q)).1.seq, (cms o s n (b, es, q)).1.high)) ∧ Vb (cms o s n (b, es, q)).1 ∧ Sb b (cms o s n (b, es, q)).1 ∧ 0 ≤ (cms o s n (b, es, q)).2.2 ∧ (cms o s n (b, es, q)).2.2 ≤ q
  | 0, b, es, q, v, hq => ⟨fun _ _ h => h, v, Sb.refl b, hq, Int.le_refl q⟩
  | n + 1, b, es, q, v, hq => by
    by_cases hc : 0 < q ∧ mts b o s = true
    · obtain ⟨f, x, r, hl⟩ := mts_cons hc.2
      rw [cms_step hc hl]
      obtain ⟨v', _, _, q0, q1⟩ := v.met (o := o) hs hl hc.1
      have ih := cms_good (o := o) hs n (mtB b o s q f x r).1 (es ++ (mtB b o s q f x r).2.1) (mtB b o s q f x r).2.2 v' q0
      have hb := mtB_sb (o := o) (q := q) hs hl
      refine ⟨fun s0 h0 h => ih.1 s0 h0 ?_, ih.2.1, hb.trans ih.2.2.1, ih.2.2.2.1, Int.le_trans ih.2.2.2.2 q1⟩
      rw [chN_append h, mtB_ch, hb.high]
    · rw [cms_end hc]
      exact ⟨fun _ _ h => h, v, Sb.refl b, hq, Int.le_refl q⟩
def lns (b : Bs) : Nat := b.l1.length + b.l2.length
theorem Sb.lns {b b' : Bs} (h : Sb b b') : lns b' ≤ lns b := by
  have a := h.len 1
  have c := h.len 2
  simp only [Bs.sl] at a c
  simp at a c
  unfold Go.Proofs.Ytojmcfkbekodpaa.lns
  omega
theorem ins_perm {i : Nat} {x : Nat × Or} {l : LO} : (ins i x l).Perm (x :: l) := by
  unfold ins
  refine List.perm_middle.trans ?_
  rw [List.take_append_drop]
/-- an order rests. -/
theorem Vb.ins {b : Bs} (v : Vb b) {s : Int} (hs : s = 1 ∨ s = 2) {p : Option Addr} {c : Nat} {x : Nat × Or} (hx : OrOk x.2) (hid : ∀ S, ∀ y ∈ b.sl S, y.2.id < x.2.id) (hl : lns b + 1 ≤ 1048576) : Vb (b.put s p c (ins (bhd s x.2.pr (b.sl s)) x (b.sl s))) ∧ lns (b.put s p c (Go.Proofs.Ytojmcfkbekodpaa.ins (bhd s x.2.pr (b.sl s)) x (b.sl s))) = lns b + 1 := by
  have hlen : lns (b.put s p c (Go.Proofs.Ytojmcfkbekodpaa.ins (bhd s x.2.pr (b.sl s)) x (b.sl s))) = lns b + 1 := by
    have e : ∀ i l, (Go.Proofs.Ytojmcfkbekodpaa.ins i x l).length = l.length + 1 := fun i l => by
      have := (ins_perm (i := i) (x := x) (l := l)).length_eq
      simpa using this
    unfold lns
    rcases hs with rfl | rfl
    · show (Go.Proofs.Ytojmcfkbekodpaa.ins _ _ b.l1).length + b.l2.length = _
      rw [e]; omega
    · show b.l1.length + (Go.Proofs.Ytojmcfkbekodpaa.ins _ _ b.l2).length = _
      rw [e]; omega
  refine ⟨⟨fun S y hy => ?_, fun S hS => ?_, ?_, by unfold lns at hlen hl; omega⟩, hlen⟩
  · rw [put_sl' _ _ _ _ _ _ hs] at hy
    split at hy
    · rcases List.mem_cons.1 (ins_perm.mem_iff.1 hy) with rfl | hy
      · exact hx
      · exact v.ok s y hy
    · exact v.ok S y hy
  · rw [put_sl' _ _ _ _ _ _ hs]
    split
    · rename_i e
      have : S = s := by omega
      rw [this]
      exact srt_enq (v.srt s hs) x
    · exact v.srt S hS
  · have hi := v.ids
    unfold Ids at hi ⊢
    have hp : ((b.put s p c (Go.Proofs.Ytojmcfkbekodpaa.ins (bhd s x.2.pr (b.sl s)) x (b.sl s))).l1 ++ (b.put s p c (Go.Proofs.Ytojmcfkbekodpaa.ins (bhd s x.2.pr (b.sl s)) x (b.sl s))).l2).Perm (x :: (b.l1 ++ b.l2)) := by
      rcases hs with rfl | rfl
      · show (Go.Proofs.Ytojmcfkbekodpaa.ins _ _ b.l1 ++ b.l2).Perm _
        exact (ins_perm.append_right b.l2)
      · show (b.l1 ++ Go.Proofs.Ytojmcfkbekodpaa.ins _ _ b.l2).Perm _
        exact ((ins_perm (x := x) (l := b.l2)).append_left b.l1).trans List.perm_middle
    refine (hp.map (·.2.id)).nodup_iff.2 ?_
    rw [List.map_cons, List.nodup_cons]
    refine ⟨fun hm => ?_, hi⟩
    obtain ⟨y, hy, e⟩ := List.mem_map.1 hm
    rcases List.mem_append.1 hy with hy | hy
    · have := hid 1 y hy; omega
    · have := hid 2 y hy; omega
theorem Came.good {o : Or} {s : Int} {c : Bs × List Ev × Int} {n : Nat} {b' : Bs} {es' : List Ev} (hs : s = 1 ∨ s = 2) (h : Came o s c n b' es') (v : Vb c.1) (q0 : 0 ≤ c.2.2) (q1 : c.2.2 < 4294967296) (hp : 0 ≤ o.pk) (hid : ∀ S, ∀ y ∈ c.1.sl S, y.2.id < o.id) (hl : rst o.ty = true → lns c.1 + 1 ≤ 1048576) :
    Vb b' ∧ b'.cap = c.1.cap ∧ b'.high = c.1.high ∧ (∀ s0 h0, chN s0 h0 c.2.1 = some (c.1.seq, c.1.high) → chN s0 h0 es' = some (b'.seq, b'.high)) ∧ (∀ S, ∀ y ∈ b'.sl S, y.2.id ≤ o.id) ∧ lns b' ≤ lns c.1 + (if rst o.ty = true then 1 else 0) := by
  have hid' : ∀ S, ∀ y ∈ c.1.sl S, y.2.id ≤ o.id := fun S y hy => Int.le_of_lt (hid S y hy)
  rcases h with ⟨_, rfl, rfl⟩ | ⟨hq, hr, rfl, p', c', blk, _, rfl⟩ | ⟨hq, hr, rfl, rfl⟩
  · exact ⟨v, rfl, rfl, fun _ _ h => h, hid', by omega⟩
  · obtain ⟨x, hx⟩ : ∃ x : Nat × Or, x = (blk, { o with vi := (shw o.pk c.2.2).1, hi := (shw o.pk c.2.2).2 }) := ⟨_, rfl⟩
    have hxi : x.2.id = o.id := by rw [hx]
    have hxp : x.2.pr = o.pr := by rw [hx]
    have hxo : OrOk x.2 := by
      rw [hx]
      unfold OrOk shw
      simp only
      split
      · simp only; omega
      · rename_i e
        simp only
        have : ¬ o.pk = 0 := fun h => e (.inl h)
        have : ¬ c.2.2 < o.pk := fun h => e (.inr h)
        omega
    rw [← hx, ← hxp]
    obtain ⟨v', l'⟩ := v.ins (p := p') (c := c') hs hxo (fun S y hy => by rw [hxi]; exact hid S y hy) (hl hr)
    refine ⟨v', put_cap _ _ _ _ _, put_high _ _ _ _ _, fun s0 h0 h => by rw [put_seq, put_high]; exact h, fun S y hy => ?_, by rw [l', if_pos hr]; omega⟩
    rw [put_sl' _ _ _ _ _ _ hs] at hy
    split at hy
    · rcases List.mem_cons.1 (ins_perm.mem_iff.1 hy) with rfl | hy
      · exact Int.le_of_eq hxi
      · exact hid' s y hy
    · exact hid' S y hy
  · refine ⟨v.told, rfl, rfl, fun s0 h0 h => ?_, hid', by show lns c.1 ≤ _; omega⟩
    rw [chN_append h]
    simp [chN, evC, Ev.num, Bs.told]
/-- a good book. -/
structure Gb (b : Bs) : Prop where
  vb : Vb b
  len : (lns b : Int) ≤ b.cap
  cap : b.cap ≤ 4096
  ids : ∀ S, ∀ y ∈ b.sl S, y.2.id ≤ b.high
theorem Took.good {b : Bs} {es : List Ev} {o : Or} {s q : Int} {b' : Bs} {es' : List Ev} (h : Took b es o s q b' es') (g : Gb b) (hs : s = 1 ∨ s = 2) (q0 : 0 ≤ q) (q1 : q < 4294967296) (hp : 0 ≤ o.pk) (hi : b.high < o.id) (hl : rst o.ty = true → (lns b : Int) + 1 ≤ b.cap) :
    Gb b' ∧ b'.cap = b.cap ∧ ∀ s0 h0, chN s0 h0 es = some (b.seq, b.high) → chN s0 h0 es' = some (b'.seq, b'.high) := by
  have hc := g.cap
  have hl0 := g.len
  have hch : ∀ s0 h0, chN s0 h0 es = some (b.seq, b.high) → chN s0 h0 (es ++ [(evA o s q).num (nx b.seq)]) = some ((b.hgh o.id).told.seq, (b.hgh o.id).told.high) := fun s0 h0 h => by
    rw [chN_append h]
    simp [chN, evA, Ev.num, Bs.told, Bs.hgh, hi]
  rcases h with ⟨_, _, rfl, rfl⟩ | ⟨_, n, hcm⟩
  · refine ⟨⟨(g.vb.hgh _).told.told, g.len, g.cap, fun S y hy => ?_⟩, rfl, fun s0 h0 h => ?_⟩
    · have := g.ids S y hy
      show y.2.id ≤ o.id
      omega
    · rw [chN_append (hch s0 h0 h)]
      simp [chN, evC, Ev.num, Bs.told, Bs.hgh]
  · obtain ⟨k1, k2, k3, k4, k5⟩ := cms_good (o := o) hs (mes b s q + 1) (b.hgh o.id).told (es ++ [(evA o s q).num (nx b.seq)]) q (g.vb.hgh _).told q0
    have kl := k3.lns
    have kl' : lns (b.hgh o.id).told = lns b := rfl
    rw [kl'] at kl
    obtain ⟨m1, m2, m3, m4, m5, m6⟩ := hcm.good hs k2 k4 (by omega) hp (fun S y hy => by
      obtain ⟨z, hz, e⟩ := k3.sub S y hy
      have := g.ids S z hz
      omega) (fun hr => by have := hl hr; omega)
    have hcap : b'.cap = b.cap := m2.trans k3.cap
    have hhi : b'.high = o.id := m3.trans k3.high
    refine ⟨⟨m1, ?_, by omega, fun S y hy => by rw [hhi]; exact m5 S y hy⟩, hcap, fun s0 h0 h => m4 s0 h0 (k1 s0 h0 (hch s0 h0 h))⟩
    rw [hcap]
    split at m6
    · rename_i hr
      have := hl hr
      omega
    · omega
theorem rfs_new {b : Bs} {c : Cm} (h : rfs b c = 0) (k : c.kd ≠ 2) : b.high < c.id ∧ (c.kd = 1 → rst (cmN b c).ty = true → (lns b : Int) < b.cap) := by
  unfold rfs at h
  split at h
  · cases h
  · split at h
    · cases h
    · split at h
      · rename_i h3
        exact absurd h (by
          rcases h3 with h3 | h3
          · exact h3
          · exact absurd h3 k)
      · split at h
        · cases h
        · rename_i h4
          split at h
          · cases h
          · rename_i h5
            refine ⟨by omega, fun k1 hr => ?_⟩
            unfold lns
            have : ¬ b.cap ≤ (b.l1.length : Int) + b.l2.length := fun hh => h5 ⟨k1, hr, hh⟩
            omega
theorem Gb.told {b : Bs} (g : Gb b) : Gb b.told := ⟨g.vb.told, g.len, g.cap, g.ids⟩
theorem Gb.sb {b b' : Bs} (g : Gb b) (h : Sb b b') (v : Vb b') : Gb b' := by
  have := h.lns
  have := g.len
  refine ⟨v, by rw [h.cap]; omega, by rw [h.cap]; exact g.cap, fun S y hy => ?_⟩
  obtain ⟨z, hz, e⟩ := h.sub S y hy
  have := g.ids S z hz
  rw [h.high]
  omega
theorem Did.good {b : Bs} {c : Cm} {b' : Bs} {es' : List Ev} (h : Did b c b' es') (g : Gb b) (hc : CmOk c) : Gb b' ∧ b'.cap = b.cap ∧ chN b.seq b.high es' = some (b'.seq, b'.high) := by
  have hpk : (ord (cmN b c)).pk = c.pk := by
    show (cmN b c).pk = c.pk
    unfold cmN; split <;> rfl
  have hoi : (ord (cmN b c)).id = c.id := by
    show (cmN b c).id = c.id
    unfold cmN; split <;> rfl
  have hp0 := hc.pk0
  rcases h with ⟨_, rfl, rfl⟩ | ⟨_, _, o, s, k, i, hf, rfl, rfl⟩ | ⟨h0, k1, ht⟩ | ⟨h0, k3, o, s, k, i, hf, ht⟩
  · exact ⟨g.told, rfl, by simp [chN, evR, Ev.num, Bs.told]⟩
  · exact ⟨(g.sb (Sb.del hf.side i) (g.vb.del hf.side i)).told, (Sb.del hf.side i).cap, by simp [chN, evC, Ev.num, Bs.told, Bs.del, put_seq, put_high]⟩
  · obtain ⟨n1, n2⟩ := rfs_new h0 (by omega)
    have e : cmN b c = c := by unfold cmN; rw [if_neg (by omega)]
    rcases rfs_zero h0 with ⟨k, _⟩ | ⟨_, hs, q1, q2⟩ | ⟨k, _⟩
    · omega
    · obtain ⟨g', hcap, hch⟩ := ht.good g (by rw [e]; exact hs) (by omega) (by omega) (by omega) (by omega) (fun hr => by have := n2 k1 hr; omega)
      exact ⟨g', hcap, hch _ _ rfl⟩
    · omega
  · obtain ⟨n1, n2⟩ := rfs_new h0 (by omega)
    rcases rfs_zero h0 with ⟨k, _⟩ | ⟨k, _⟩ | ⟨_, _, q1, q2⟩
    · omega
    · omega
    · have hsd : (cmN b c).sd = s := by unfold cmN; rw [if_pos k3, hf.ff]
      have sb := Sb.del (b := b) hf.side i
      have g1 := (g.sb sb (g.vb.del hf.side i)).told
      have hln : lns (b.del s i).told + 1 = lns b := by
        have hlt := hf.lt
        show lns (b.del s i) + 1 = lns b
        unfold lns Bs.del
        rcases hf.side with rfl | rfl
        · show (b.l1.eraseIdx i).length + b.l2.length + 1 = _
          have hlt' : i < b.l1.length := hlt
          rw [List.length_eraseIdx_of_lt hlt']; omega
        · show b.l1.length + (b.l2.eraseIdx i).length + 1 = _
          have hlt' : i < b.l2.length := hlt
          rw [List.length_eraseIdx_of_lt hlt']; omega
      have hg := g.len
      obtain ⟨g', hcap, hch⟩ := ht.good g1 (by rw [hsd]; exact hf.side) (by omega) (by omega) (by omega) (by show (b.del s i).high < _; rw [sb.high]; omega) (fun hr => by show _ ≤ (b.del s i).cap; rw [sb.cap]; omega)
      refine ⟨g', hcap.trans sb.cap, hch _ _ ?_⟩
      simp [chN, evC, Ev.num, Bs.told, Bs.del, put_seq, put_high]
end Go.Proofs.Ytojmcfkbekodpaa
namespace Go.Proofs.Ytojmcfkbekodpaa
open Go.RowKit Go.Deep Go.Shelf
set_option linter.unusedVariables false
set_option linter.unusedSimpArgs false
set_option maxHeartbeats 8000000
set_option maxRecDepth 100000
theorem cmr_cells {U : World} {R : Nat} {c : Cm} (hR : U.heap[R]? = some (.cells (cmr c) 38 (0, 0))) : U.cell? ⟨R, 0, none⟩ = some (.int .i64 c.kd) ∧ U.cell? ⟨R, 1, none⟩ = some (.int .u64 c.id) ∧ U.cell? ⟨R, 2, none⟩ = some (.int .u64 c.tg) ∧ U.cell? ⟨R, 3, none⟩ = some (.int .u32 c.mb) ∧ U.cell? ⟨R, 4, none⟩ = some (.int .i64 c.sd) ∧ U.cell? ⟨R, 5, none⟩ = some (.int .i64 c.ty) ∧ U.cell? ⟨R, 6, none⟩ = some (.int .i64 c.pr) ∧ U.cell? ⟨R, 7, none⟩ = some (.int .u64 c.qt) ∧ U.cell? ⟨R, 8, none⟩ = some (.int .u64 c.pk) := by
  have a0 := row_cell hR 0
  have a1 := row_cell hR 1
  have a2 := row_cell hR 2
  have a3 := row_cell hR 3
  have a4 := row_cell hR 4
  have a5 := row_cell hR 5
  have a6 := row_cell hR 6
  have a7 := row_cell hR 7
  have a8 := row_cell hR 8
  simp only [cmr, List.getElem?_toArray, List.getElem?_cons_succ, List.getElem?_cons_zero] at a0 a1 a2 a3 a4 a5 a6 a7 a8
  exact ⟨a0, a1, a2, a3, a4, a5, a6, a7, a8⟩
theorem crow_cells {U : World} {R : Nat} {o : Or} {s q : Int} (hR : U.heap[R]? = some (.cells (crow o s q) 88 (0, 0))) : U.cell? ⟨R, 0, none⟩ = some (.int .u64 o.id) ∧ U.cell? ⟨R, 1, none⟩ = some (.int .u32 o.mb) ∧ U.cell? ⟨R, 2, none⟩ = some (.int .i64 o.ty) ∧ U.cell? ⟨R, 3, none⟩ = some (.int .i64 o.pr) ∧ U.cell? ⟨R, 4, none⟩ = some (.int .u64 o.vi) ∧ U.cell? ⟨R, 5, none⟩ = some (.int .u64 o.hi) ∧ U.cell? ⟨R, 6, none⟩ = some (.int .u64 o.pk) ∧ U.cell? ⟨R, 7, none⟩ = some (.int .i64 s) ∧ U.cell? ⟨R, 8, none⟩ = some (.int .u64 q) := by
  have a0 := row_cell hR 0
  have a1 := row_cell hR 1
  have a2 := row_cell hR 2
  have a3 := row_cell hR 3
  have a4 := row_cell hR 4
  have a5 := row_cell hR 5
  have a6 := row_cell hR 6
  have a7 := row_cell hR 7
  have a8 := row_cell hR 8
  simp only [crow, List.getElem?_toArray, List.getElem?_cons_succ, List.getElem?_cons_zero] at a0 a1 a2 a3 a4 a5 a6 a7 a8
  exact ⟨a0, a1, a2, a3, a4, a5, a6, a7, a8⟩
theorem crow_cellsU {U : World} {R : Nat} {o : Or} {s q : Int} (hR : U.heap[R]? = some (.cells #[.int .u64 o.id, .int .u32 o.mb, .int .i64 o.ty, .int .i64 o.pr, .int .u64 o.vi, .int .u64 o.hi, .int .u64 o.pk, .int .i64 s, .int .u64 q] 88 (0, 0))) : U.cell? ⟨R, 0, none⟩ = some (.int .u64 o.id) ∧ U.cell? ⟨R, 1, none⟩ = some (.int .u32 o.mb) ∧ U.cell? ⟨R, 2, none⟩ = some (.int .i64 o.ty) ∧ U.cell? ⟨R, 3, none⟩ = some (.int .i64 o.pr) ∧ U.cell? ⟨R, 4, none⟩ = some (.int .u64 o.vi) ∧ U.cell? ⟨R, 5, none⟩ = some (.int .u64 o.hi) ∧ U.cell? ⟨R, 6, none⟩ = some (.int .u64 o.pk) ∧ U.cell? ⟨R, 7, none⟩ = some (.int .i64 s) ∧ U.cell? ⟨R, 8, none⟩ = some (.int .u64 q) := crow_cells hR
theorem Td.evs {w0 : World} {G : Nat → Prop} {T B : Nat} {b : Bs} {ve : Value} {es : List Ev} {U : World} (h : Td w0 G T B b ve es U) : ∃ p c, ve = .slice p es.length c ∧ U.cell? ⟨T, 1, none⟩ = some (.slice p es.length c) := by
  obtain ⟨p, c, rfl⟩ := own_form h.tn.ev
  have t := row_cell h.tn.row 1
  simp only [List.getElem?_toArray, List.getElem?_cons_succ, List.getElem?_cons_zero] at t
  exact ⟨p, c, rfl, t⟩
theorem do_any (B : Nat) (b : Bs) (c : Cm) (w : World) (h : Bm w B b) (hv : Vb b) (hc : CmOk c) :
    Calls Try.prog 10 #[.pointer (some ⟨B, 0, none⟩), .agg (cmr c)] w fun e w' => ∃ T b' ve' es', e = .returned ve' ∧ Td w (b.fp B) T B b' ve' es' w' ∧ Did b c b' es' := by
  obtain ⟨R, hR⟩ : ∃ R, w.heap.size = R := ⟨_, rfl⟩
  obtain ⟨W, hW⟩ : ∃ W, w.alloc (.cells (cmr c) 38) = W := ⟨_, rfl⟩
  obtain ⟨T, hT⟩ : ∃ T, W.heap.size = T := ⟨_, rfl⟩
  obtain ⟨W2, hW2⟩ : ∃ W2, W.alloc (.cells #[.pointer (some ⟨B, 0, none⟩), .slice none 0 0] 80) = W2 := ⟨_, rfl⟩
  have hb : Below w.heap.size w W := by rw [← hW]; exact ball _ _
  have hb2 : Below W.heap.size W W2 := by rw [← hW2]; exact ball _ _
  have hx : W2.heap[R]? = some (.cells (cmr c) 38 (0, 0)) := row_on (by rw [← hW, ← hR]; exact World.alloc_heap_new _ _) hb2
  have hbw : Below w.heap.size w W2 := btr hb hb2
  have hwT : w.heap.size ≤ T := by rw [← hT]; exact hb.size
  have htd : Td w (b.fp B) T B b (.slice none 0 0) [] W2 := by
    refine ⟨⟨h.on hbw, by rw [← hW2, ← hT]; exact World.alloc_heap_new _ _, ⟨rfl, .inl ⟨rfl, rfl⟩⟩⟩, Kp.of _ hbw, ?_⟩
    rintro j ((e | e | e) | e)
    · exact .inr (by omega)
    · exact .inl (.inl e)
    · cases e
    · exact .inl e
  have CRF := hid (refusal_any B b c W2 htd.tn.bm hc hv.len)
  have CRJ := hid (fun (U : World) (y : Int) (hU : Below W2.heap.size W2 U) => (reject_any T B b (.slice none 0 0) [] c y U (htd.on hU).tn (by simp)).mono (R' := fun e w' => e = .returned (.tuple #[]) ∧ ∃ ve', Td w (b.fp B) T B b.told ve' [(evR c y).num (nx b.seq)] w') (fun e w' hh => ⟨hh.1, (htd.on hU).told hh.2⟩))
  have HCE := hid (fun (U : World) (hU : Below W2.heap.size W2 U) => cmr_cells (row_on hx hU))
  have COD := hid (fun (U : World) (hU : Below W2.heap.size W2 U) => order_any B b c U (htd.on hU).tn.bm hv.len)
  have HX := hid hx
  have HTD := hid htd
  have HW := hid hW
  have HW2 := hid hW2
  have HRR := hid hR
  have HTT := hid (show R + 1 = T from by rw [← hT, ← hW, ← hR]; simp)
  have HV := hid hv
  have HC := hid hc
  obtain ⟨y, hy⟩ : ∃ y, rfs b c = y := ⟨_, rfl⟩
  have HY := hid hy
  rw [hy] at CRF
  have CAN := hid (fun (U : World) (r : Int) (o : Or) (s : Int) (k i : Nat) (hf : Fd b c.tg o s k i) (hU : Below W2.heap.size W2 U) => (show Calls Try.prog 27 #[.pointer (some ⟨T, 0, none⟩), .int .u64 c.tg, .int .i64 r] U fun e w' => e = .returned (.tuple #[]) ∧ ∃ ve', Td w (b.fp B) T B (b.del s i).told ve' [(evC c.tg (o.vi + o.hi) r).num (nx b.seq)] w' ∧ Kp (gfp b T B (.slice none 0 0)) U w' from by
    obtain ⟨j, hj⟩ := hf.mem
    have ho := hv.ok s (j, o) hj
    obtain ⟨o1, o2, o3, o4⟩ := ho
    simp only at o1 o2 o3 o4
    exact (cancel_any T B b (.slice none 0 0) [] c.tg r o s k i U (htd.on hU).tn (by simp) hv.len hf.fs hf.fk hf.ff hf.fi (by rw [IntKind.wrap_u64]; omega)).mono (fun e w' hh => ⟨hh.1, (htd.on hU).fewer hf.side hh.2⟩)))
  have CTK := hid (fun (U : World) (b1 : Bs) (ve1 : Value) (es1 : List Ev) (o : Or) (s q : Int) (hU : Td w (b.fp B) T B b1 ve1 es1 U) (h1 : Vb b1) (hs : s = 1 ∨ s = 2) (q0 : 1 ≤ q) (q1 : q ≤ 4294967295) (he : es1.length ≤ 1) (hp : 0 ≤ o.pk) => (show Calls Try.prog 28 #[.pointer (some ⟨T, 0, none⟩), .agg (crow o s q)] U fun e w' => e = .returned (.tuple #[]) ∧ ∃ b' ve' es', Td w (b.fp B) T B b' ve' es' w' ∧ Took b1 es1 o s q b' es' from by
    have l1 := h1.len
    have l2 := b1.sl_le (oth s)
    exact (take_any T B b1 ve1 es1 o s q U hU.tn h1 hs (by omega) (by omega) (by unfold mes; omega) hp).mono (fun e w' hh => by
      obtain ⟨rfl, b', ve', es', h3, h4⟩ := hh
      exact ⟨rfl, b', ve', es', hU.trans h3, h4⟩)))
  have HPK := hid (show 0 ≤ (ord (cmN b c)).pk from by
    have : (cmN b c).pk = c.pk := by unfold cmN; split <;> rfl
    show 0 ≤ (cmN b c).pk
    rw [this]; exact hc.pk0)
  clear hW hW2 hT hR hb hb2 hx hbw hwT htd hy h hv hc
  unfold cmr
  go_enter Try.func10, Try.ntmps10
  go_upto_region 2 with fail
  have e0 := HRR.out
  have e1 := HW.out
  unfold cmr at e1
  have e2 := HTT.out
  have e3 := HW2.out
  rw [e0, e1, e2, e3]
  clear e0 e1 e2 e3
  unfold cmr at CRF CRJ COD
  obtain ⟨a0, a1, a2, a3, a4, a5, a6, a7, a8⟩ := HCE.out W2 (Below.refl _ _)
  by_cases y0 : y = 0
  · subst y0
    rcases rfs_zero HY.out with ⟨k2, o, s, k, i, hf⟩ | ⟨k1, hsd, hq1, hq2⟩ | ⟨k3, ⟨o, s, k, i, hf⟩, hq1, hq2⟩
    · have HF := hid hf
      clear hf
      rw [k2] at a0
      rw [k2] at HCE CRF
      have CAN1 := hid (fun U hU => CAN.out U 1 o s k i HF.out hU)
      go_wp2_with (first | (go_at_call 25; with_reducible refine (CRF.out).mono ?_; rintro e w1 ⟨rfl, hb1⟩; have HB1 := hid hb1; obtain ⟨c0, c1, c2, c3, c4, c5, c6, c7, c8⟩ := HCE.out w1 hb1; clear hb1) | (go_at_call 27; with_reducible refine (CAN1.out w1 HB1.out).mono ?_; rintro e w2 ⟨rfl, ve2, h2, hk2⟩; obtain ⟨p2, q2, rfl, t1⟩ := h2.evs; have H2 := hid h2; clear h2 hk2))
      go_ret
      exact ⟨T, _, _, _, rfl, H2.out, .inr (.inl ⟨HY.out, k2, o, s, k, i, HF.out, rfl, rfl⟩)⟩
    · have k1' : (c.kd == 2) = false := by simp [k1]
      have HSD := hid (show (cmN b c).sd = 1 ∨ (cmN b c).sd = 2 from by
        have : cmN b c = c := by unfold cmN; rw [if_neg (by omega)]
        rw [this]; exact hsd)
      rw [k1] at a0
      rw [k1] at HCE COD CRF
      have CTK1 := hid (fun U hU => CTK.out U b (.slice none 0 0) [] (ord (cmN b c)) (cmN b c).sd c.qt hU HV.out HSD.out hq1 hq2 (by simp) HPK.out)
      clear hsd
      go_wp2_with (first | (go_at_call 25; with_reducible refine (CRF.out).mono ?_; rintro e w1 ⟨rfl, hb1⟩; have HB1 := hid hb1; obtain ⟨c0, c1, c2, c3, c4, c5, c6, c7, c8⟩ := HCE.out w1 hb1; clear hb1) | (go_at_call 29; with_reducible refine (COD.out w1 HB1.out).mono ?_; rintro e w3 ⟨rfl, hb3⟩; have H3 := hid ((HTD.out.on HB1.out).on hb3); clear hb3) | (go_at_call 28; with_reducible refine (CTK1.out w3 H3.out).mono ?_; rintro e w2 ⟨rfl, b2, ve2, es2, h2, ht2⟩; obtain ⟨p2, q2, rfl, t1⟩ := h2.evs; have H2 := hid h2; have HT2 := hid ht2; clear h2 ht2))
      go_ret
      exact ⟨T, _, _, _, rfl, H2.out, .inr (.inr (.inl ⟨HY.out, k1, HT2.out⟩))⟩
    · have HF := hid hf
      have HSD := hid (show (cmN b c).sd = 1 ∨ (cmN b c).sd = 2 from by
        have : (cmN b c).sd = s := by unfold cmN; rw [if_pos k3, hf.ff]
        rw [this]; exact hf.side)
      clear hf
      rw [k3] at a0
      rw [k3] at HCE COD CRF
      obtain ⟨ob, hob⟩ : ∃ ob, ord (cmN b c) = ob := ⟨_, rfl⟩
      obtain ⟨sb, hsb⟩ : ∃ sb, (cmN b c).sd = sb := ⟨_, rfl⟩
      rw [hob, hsb] at COD
      rw [hob] at HPK
      rw [hsb] at HSD
      have HOB := hid hob
      have HSB := hid hsb
      clear hob hsb
      have KEY := hid (fun (w3 : World) (hb3 : Below W2.heap.size W2 w3) => (show Calls Try.prog 27 #[.pointer (some ⟨T, 0, none⟩), .int .u64 c.tg, .int .i64 2] (w3.alloc (.cells (crow ob sb c.qt) 88)) fun e w' => e = .returned (.tuple #[]) ∧ ∃ ve', Td w (b.fp B) T B (b.del s i).told ve' [(evC c.tg (o.vi + o.hi) 2).num (nx b.seq)] w' ∧ w'.heap[w3.heap.size]? = some (.cells (crow ob sb c.qt) 88 (0, 0)) from by
        have h5 := btr hb3 (ball w3 (.cells (crow ob sb c.qt) 88))
        refine (CAN.out _ 2 o s k i HF.out h5).mono ?_
        rintro e w' ⟨rfl, ve', h1, h2⟩
        have hr := World.alloc_heap_new w3 (.cells (crow ob sb c.qt) 88)
        exact ⟨rfl, ve', h1, h2.row hr ((HTD.out.on h5).neR hr (by decide))⟩))
      have CTK1 := hid (fun U ve hU => CTK.out U (b.del s i).told ve [(evC c.tg (o.vi + o.hi) 2).num (nx b.seq)] ob sb c.qt hU (HV.out.del HF.out.side i).told HSD.out hq1 hq2 (Nat.le_refl 1) HPK.out)
      unfold crow at KEY COD CTK1
      go_wp2_with (first | (go_at_call 25; with_reducible refine (CRF.out).mono ?_; rintro e w1 ⟨rfl, hb1⟩; have HB1 := hid hb1; obtain ⟨c0, c1, c2, c3, c4, c5, c6, c7, c8⟩ := HCE.out w1 hb1; clear hb1) | (go_at_call 29; with_reducible refine (COD.out w1 HB1.out).mono ?_; rintro e w3 ⟨rfl, hb3⟩; have HB3 := hid (btr HB1.out hb3); obtain ⟨d0, d1, d2, d3, d4, d5, d6, d7, d8⟩ := HCE.out w3 (btr HB1.out hb3); have n3 := row_lt (row_on HX.out (btr HB1.out hb3)); have m3 : R ≠ w3.heap.size := (by omega); clear hb3) | (go_at_call 27; with_reducible refine (KEY.out w3 HB3.out).mono ?_; rintro e w4 ⟨rfl, ve4, h4, hx4⟩; obtain ⟨f0, f1, f2, f3, f4, f5, f6, f7, f8⟩ := crow_cellsU hx4; have H4 := hid h4; clear h4 hx4) | (go_at_call 28; with_reducible refine (CTK1.out w4 ve4 H4.out).mono ?_; rintro e w2 ⟨rfl, b2, ve2, es2, h2, ht2⟩; obtain ⟨p2, q2, rfl, t1⟩ := h2.evs; have H2 := hid h2; have HT2 := hid ht2; clear h2 ht2))
      go_ret
      exact ⟨T, _, _, _, rfl, H2.out, .inr (.inr (.inr ⟨HY.out, k3, o, s, k, i, HF.out, by rw [HOB.out, HSB.out]; exact HT2.out⟩))⟩
  · have y0' : (y != 0) = true := by simpa using y0
    go_wp2_with (first | (go_at_call 25; with_reducible refine (CRF.out).mono ?_; rintro e w1 ⟨rfl, hb1⟩; have HB1 := hid hb1; obtain ⟨c0, c1, c2, c3, c4, c5, c6, c7, c8⟩ := HCE.out w1 hb1; clear hb1) | (go_at_call 26; with_reducible refine (CRJ.out w1 _ HB1.out).mono ?_; rintro e w2 ⟨rfl, ve2, h2⟩; obtain ⟨p2, q2, rfl, t1⟩ := h2.evs; have H2 := hid h2; clear h2))
    go_ret
    exact ⟨T, _, _, _, rfl, H2.out, .inl ⟨by rw [HY.out]; exact y0, rfl, by rw [HY.out]⟩⟩
end Go.Proofs.Ytojmcfkbekodpaa
