/-
  Trees that stay flat, plain.
-/
namespace Go.Proofs.Ytldpkmegofncfaa
set_option linter.unusedVariables false
set_option linter.unusedSimpArgs false
inductive T where
  | nil : T
  | nd (k v : Int) (l r : T) : T
namespace T
def h : T → Nat
  | .nil => 0
  | .nd _ _ l r => 1 + max l.h r.h
def n : T → Nat
  | .nil => 0
  | .nd _ _ l r => 1 + l.n + r.n
def toL : T → List (Int × Int)
  | .nil => []
  | .nd k v l r => l.toL ++ (k, v) :: r.toL
/-- of each node's two subtrees none is higher by more than one. -/
def avl : T → Prop
  | .nil => True
  | .nd _ _ l r => l.avl ∧ r.avl ∧ l.h ≤ r.h + 1 ∧ r.h ≤ l.h + 1
/-- the keys rise. -/
def so (t : T) : Prop := t.toL.Pairwise (fun a b => a.1 < b.1)
def turn0 : T → T
  | .nd k v (.nd lk lv ll lr) r => .nd lk lv ll (.nd k v lr r)
  | t => t
def turn1 : T → T
  | .nd k v l (.nd rk rv rl rr) => .nd rk rv (.nd k v l rl) rr
  | t => t
def left : T → T
  | .nil => .nil
  | .nd _ _ l _ => l
def right : T → T
  | .nil => .nil
  | .nd _ _ _ r => r
def bal : T → T
  | .nil => .nil
  | .nd k v l r =>
    if r.h + 2 ≤ l.h then
      if l.left.h < l.right.h then (T.nd k v l.turn1 r).turn0 else (T.nd k v l r).turn0
    else if l.h + 2 ≤ r.h then
      if r.right.h < r.left.h then (T.nd k v l r.turn0).turn1 else (T.nd k v l r).turn1
    else .nd k v l r
theorem bal_nd (k v : Int) (l r : T) : (T.nd k v l r).bal =
    if r.h + 2 ≤ l.h then
      if l.left.h < l.right.h then (T.nd k v l.turn1 r).turn0 else (T.nd k v l r).turn0
    else if l.h + 2 ≤ r.h then
      if r.right.h < r.left.h then (T.nd k v l r.turn0).turn1 else (T.nd k v l r).turn1
    else .nd k v l r := rfl
def find (key : Int) : T → T
  | .nil => .nil
  | .nd k v l r => if key = k then .nd k v l r else if key < k then l.find key else r.find key
def way (key : Int) : T → List T
  | .nil => []
  | .nd k v l r => if key = k then [] else .nd k v l r :: (if key < k then l.way key else r.way key)
def repl (key : Int) (f : T → T) : T → T
  | .nil => f .nil
  | .nd k v l r => if key = k then f (.nd k v l r) else if key < k then (T.nd k v (l.repl key f) r).bal else (T.nd k v l (r.repl key f)).bal
def graft (key : Int) (t u : T) : T :=
  match t with
  | .nil => u
  | .nd k v l r => if key < k then (T.nd k v u r).bal else (T.nd k v l u).bal
def ups (key : Int) (ts : List T) (u : T) : T := ts.foldr (graft key) u
theorem ups_way (key : Int) (f : T → T) : ∀ t : T, ups key (t.way key) (f (t.find key)) = t.repl key f
  | .nil => by simp [ups, way, find, repl]
  | .nd k v l r => by
    have hl := ups_way key f l
    have hr := ups_way key f r
    unfold ups at hl hr ⊢
    unfold way find repl
    by_cases h1 : key = k
    · simp [h1]
    · by_cases h2 : key < k
      · simp [h1, h2, graft, hl]
      · simp [h1, h2, graft, hr]
def outL : T → T
  | .nil => .nil
  | .nd k v .nil r => .nd k v .nil r
  | .nd _ _ (.nd a b c d) _ => outL (.nd a b c d)
def outR : T → T
  | .nil => .nil
  | .nd k v l .nil => .nd k v l .nil
  | .nd _ _ _ (.nd a b c d) => outR (.nd a b c d)
def hold (key v : Int) : T → T
  | .nil => .nd key v .nil .nil
  | .nd _ _ l r => .nd key v l r
def dropped : T → T
  | .nil => .nil
  | .nd k v l r =>
    match r.outL with
    | .nil => l
    | .nd nk nv _ nr => (T.nd nk nv l (r.repl nk (fun _ => nr))).bal
def put (key v : Int) (t : T) : T := t.repl key (hold key v)
def drop (key : Int) (t : T) : T :=
  match t.find key with
  | .nil => t
  | _ => t.repl key dropped
def val : T → Option Int
  | .nil => none
  | .nd _ v _ _ => some v
def key? : T → Option Int
  | .nil => none
  | .nd k _ _ _ => some k
def get (key : Int) (t : T) : Option Int := (t.find key).val

theorem toL_len : ∀ t : T, t.toL.length = t.n
  | .nil => rfl
  | .nd k v l r => by simp [toL, n, toL_len l, toL_len r]; omega
theorem toL_turn0 (t : T) : t.turn0.toL = t.toL := by
  unfold turn0; split <;> simp [toL]
theorem toL_turn1 (t : T) : t.turn1.toL = t.toL := by
  unfold turn1; split <;> simp [toL]
theorem toL_bal (t : T) : t.bal.toL = t.toL := by
  cases t with
  | nil => rfl
  | nd k v l r =>
    rw [bal_nd]
    split
    · split
      · rw [toL_turn0]; simp [toL, toL_turn1]
      · rw [toL_turn0]
    · split
      · split
        · rw [toL_turn1]; simp [toL, toL_turn0]
        · rw [toL_turn1]
      · rfl
theorem n_bal (t : T) : t.bal.n = t.n := by rw [← toL_len, toL_bal, toL_len]
/-- made flat again. -/
theorem bal_avl {k v : Int} {l r : T} (hl : l.avl) (hr : r.avl) (h1 : l.h ≤ r.h + 2) (h2 : r.h ≤ l.h + 2) :
    (T.nd k v l r).bal.avl ∧ (T.nd k v l r).bal.h ≤ 1 + max l.h r.h ∧ max l.h r.h ≤ (T.nd k v l r).bal.h ∧ (l.h ≤ r.h + 1 → r.h ≤ l.h + 1 → (T.nd k v l r).bal.h = 1 + max l.h r.h) := by
  rw [bal_nd]
  by_cases c1 : r.h + 2 ≤ l.h
  · rw [if_pos c1]
    cases l with
    | nil => simp [h] at c1
    | nd lk lv ll lr =>
      obtain ⟨x1, x2, x3, x4⟩ := hl
      by_cases c2 : ll.h < lr.h
      · rw [if_pos (show (T.nd lk lv ll lr).left.h < (T.nd lk lv ll lr).right.h from c2)]
        cases lr with
        | nil => simp [h] at c2
        | nd mk mv ml mr =>
          obtain ⟨y1, y2, y3, y4⟩ := x2
          simp only [turn1, turn0, avl, h] at *
          refine ⟨⟨⟨x1, y1, by omega, by omega⟩, ⟨y2, hr, by omega, by omega⟩, by omega, by omega⟩, by omega, by omega, by omega⟩
      · rw [if_neg (show ¬ (T.nd lk lv ll lr).left.h < (T.nd lk lv ll lr).right.h from c2)]
        simp only [turn0, avl, h] at *
        refine ⟨⟨x1, ⟨x2, hr, by omega, by omega⟩, by omega, by omega⟩, by omega, by omega, by omega⟩
  · rw [if_neg c1]
    by_cases c3 : l.h + 2 ≤ r.h
    · rw [if_pos c3]
      cases r with
      | nil => simp [h] at c3
      | nd rk rv rl rr =>
        obtain ⟨x1, x2, x3, x4⟩ := hr
        by_cases c2 : rr.h < rl.h
        · rw [if_pos (show (T.nd rk rv rl rr).right.h < (T.nd rk rv rl rr).left.h from c2)]
          cases rl with
          | nil => simp [h] at c2
          | nd mk mv ml mr =>
            obtain ⟨y1, y2, y3, y4⟩ := x1
            simp only [turn1, turn0, avl, h] at *
            refine ⟨⟨⟨hl, y1, by omega, by omega⟩, ⟨y2, x2, by omega, by omega⟩, by omega, by omega⟩, by omega, by omega, by omega⟩
        · rw [if_neg (show ¬ (T.nd rk rv rl rr).right.h < (T.nd rk rv rl rr).left.h from c2)]
          simp only [turn1, avl, h] at *
          refine ⟨⟨⟨hl, x1, by omega, by omega⟩, x2, by omega, by omega⟩, by omega, by omega, by omega⟩
    · rw [if_neg c3]
      simp only [avl, h] at *
      exact ⟨⟨hl, hr, by omega, by omega⟩, by omega, by omega, fun _ _ => trivial⟩
theorem repl_up {key : Int} {f : T → T} : ∀ {t : T}, t.avl → (f (t.find key)).avl → (t.find key).h ≤ (f (t.find key)).h → (f (t.find key)).h ≤ (t.find key).h + 1 →
    (t.repl key f).avl ∧ t.h ≤ (t.repl key f).h ∧ (t.repl key f).h ≤ t.h + 1
  | .nil => by intro h0 h1 h2 h3; simp only [find, repl] at *; exact ⟨h1, h2, h3⟩
  | .nd k v l r => by
    intro h0 h1 h2 h3
    unfold repl
    unfold find at h1 h2 h3
    by_cases e1 : key = k
    · simp only [e1, if_true] at *; exact ⟨h1, h2, h3⟩
    · obtain ⟨a1, a2, a3, a4⟩ := h0
      by_cases e2 : key < k
      · simp only [e1, e2, if_true, if_false] at *
        obtain ⟨b1, b2, b3⟩ := repl_up a1 h1 h2 h3
        obtain ⟨c1, c2, c3, c4⟩ := bal_avl (k := k) (v := v) b1 a2 (by omega) (by omega)
        simp only [h] at *
        refine ⟨c1, ?_, ?_⟩
        · by_cases hh : (repl key f l).h ≤ r.h + 1
          · rw [c4 hh (by omega)]; omega
          · omega
        · omega
      · simp only [e1, e2, if_true, if_false] at *
        obtain ⟨b1, b2, b3⟩ := repl_up a2 h1 h2 h3
        obtain ⟨c1, c2, c3, c4⟩ := bal_avl (k := k) (v := v) a1 b1 (by omega) (by omega)
        simp only [h] at *
        refine ⟨c1, ?_, ?_⟩
        · by_cases hh : (repl key f r).h ≤ l.h + 1
          · rw [c4 (by omega) hh]; omega
          · omega
        · omega
theorem repl_dn {key : Int} {f : T → T} : ∀ {t : T}, t.avl → (f (t.find key)).avl → (f (t.find key)).h ≤ (t.find key).h → (t.find key).h ≤ (f (t.find key)).h + 1 →
    (t.repl key f).avl ∧ (t.repl key f).h ≤ t.h ∧ t.h ≤ (t.repl key f).h + 1
  | .nil => by intro h0 h1 h2 h3; simp only [find, repl] at *; exact ⟨h1, h2, h3⟩
  | .nd k v l r => by
    intro h0 h1 h2 h3
    unfold repl
    unfold find at h1 h2 h3
    by_cases e1 : key = k
    · simp only [e1, if_true] at *; exact ⟨h1, h2, h3⟩
    · obtain ⟨a1, a2, a3, a4⟩ := h0
      by_cases e2 : key < k
      · simp only [e1, e2, if_true, if_false] at *
        obtain ⟨b1, b2, b3⟩ := repl_dn a1 h1 h2 h3
        obtain ⟨c1, c2, c3, c4⟩ := bal_avl (k := k) (v := v) b1 a2 (by omega) (by omega)
        simp only [h] at *
        refine ⟨c1, ?_, ?_⟩
        · omega
        · by_cases hh : r.h ≤ (repl key f l).h + 1
          · rw [c4 (by omega) hh]; omega
          · omega
      · simp only [e1, e2, if_true, if_false] at *
        obtain ⟨b1, b2, b3⟩ := repl_dn a2 h1 h2 h3
        obtain ⟨c1, c2, c3, c4⟩ := bal_avl (k := k) (v := v) a1 b1 (by omega) (by omega)
        simp only [h] at *
        refine ⟨c1, ?_, ?_⟩
        · omega
        · by_cases hh : l.h ≤ (repl key f r).h + 1
          · rw [c4 hh (by omega)]; omega
          · omega
theorem so_nd {k v : Int} {l r : T} (h : (T.nd k v l r).so) : l.so ∧ r.so ∧ (∀ a ∈ l.toL, a.1 < k) ∧ (∀ a ∈ r.toL, k < a.1) := by
  unfold so toL at h
  rw [List.pairwise_append] at h
  obtain ⟨h1, h2, h3⟩ := h
  rw [List.pairwise_cons] at h2
  exact ⟨h1, h2.2, fun a ha => h3 a ha (k, v) (by simp), fun a ha => h2.1 a ha⟩
/-- where a key stands, and what is put in its place. -/
theorem repl_toL {key : Int} {f : T → T} : ∀ {t : T}, t.so → ∃ A C, t.toL = A ++ (t.find key).toL ++ C ∧ (t.repl key f).toL = A ++ (f (t.find key)).toL ++ C ∧ (∀ a ∈ A, a.1 < key) ∧ (∀ c ∈ C, key < c.1)
  | .nil => by intro _; exact ⟨[], [], by simp [find, toL], by simp [find, repl], by simp, by simp⟩
  | .nd k v l r => by
    intro hs
    obtain ⟨s1, s2, s3, s4⟩ := so_nd hs
    by_cases e1 : key = k
    · exact ⟨[], [], by simp [find, e1], by simp [find, repl, e1], by simp, by simp⟩
    · by_cases e2 : key < k
      · obtain ⟨A, C, a1, a2, a3, a4⟩ := repl_toL (key := key) (f := f) s1
        refine ⟨A, C ++ (k, v) :: r.toL, ?_, ?_, a3, ?_⟩
        · simp only [find, e1, e2, if_true, if_false, toL]; rw [a1]; simp
        · simp only [find, repl, e1, e2, if_true, if_false, toL_bal, toL]; rw [a2]; simp
        · intro c hc
          simp at hc
          rcases hc with hc | rfl | hc
          · exact a4 c hc
          · exact e2
          · exact Int.lt_trans e2 (s4 c hc)
      · obtain ⟨A, C, a1, a2, a3, a4⟩ := repl_toL (key := key) (f := f) s2
        refine ⟨l.toL ++ (k, v) :: A, C, ?_, ?_, ?_, a4⟩
        · simp only [find, e1, e2, if_true, if_false, toL]; rw [a1]; simp
        · simp only [find, repl, e1, e2, if_true, if_false, toL_bal, toL]; rw [a2]; simp
        · intro c hc
          simp at hc
          rcases hc with hc | rfl | hc
          · have := s3 c hc; omega
          · show k < key; omega
          · exact a3 c hc
theorem find_key {key : Int} : ∀ t : T, t.find key = .nil ∨ ∃ v l r, t.find key = .nd key v l r
  | .nil => Or.inl rfl
  | .nd k v l r => by
    unfold find
    by_cases e1 : key = k
    · subst e1; simp
    · by_cases e2 : key < k
      · simp only [e1, e2, if_true, if_false]; exact find_key l
      · simp only [e1, e2, if_true, if_false]; exact find_key r
theorem find_avl {key : Int} : ∀ {t : T}, t.avl → (t.find key).avl
  | .nil => fun h => h
  | .nd k v l r => by
    intro h0
    unfold find
    split
    · exact h0
    · split
      · exact find_avl h0.1
      · exact find_avl h0.2.1
theorem find_so {key : Int} : ∀ {t : T}, t.so → (t.find key).so
  | .nil => fun h => h
  | .nd k v l r => by
    intro h0
    obtain ⟨s1, s2, _⟩ := so_nd h0
    unfold find
    split
    · exact h0
    · split
      · exact find_so s1
      · exact find_so s2
theorem way_h (key : Int) : ∀ t : T, (t.way key).length + (t.find key).h ≤ t.h
  | .nil => by simp [way, find, h]
  | .nd k v l r => by
    have hl := way_h key l
    have hr := way_h key r
    unfold way find
    by_cases e1 : key = k
    · simp [e1, h]
    · by_cases e2 : key < k
      · simp only [e1, e2, if_true, if_false, List.length_cons, h]; omega
      · simp only [e1, e2, if_true, if_false, List.length_cons, h]; omega
theorem outL_spec : ∀ {t : T}, t.so → t ≠ .nil → ∃ nk nv nr rest, t.outL = .nd nk nv .nil nr ∧ t.find nk = .nd nk nv .nil nr ∧ t.toL = (nk, nv) :: rest
  | .nil => fun _ h => absurd rfl h
  | .nd k v .nil r => fun _ _ => ⟨k, v, r, r.toL, by simp [outL], by simp [find], by simp [toL]⟩
  | .nd k v (.nd a b c d) r => by
    intro hs _
    obtain ⟨s1, s2, s3, s4⟩ := so_nd hs
    obtain ⟨nk, nv, nr, rest, h1, h2, h3⟩ := outL_spec s1 (by simp)
    refine ⟨nk, nv, nr, rest ++ (k, v) :: r.toL, by rw [outL]; exact h1, ?_, ?_⟩
    · have : nk < k := s3 (nk, nv) (by rw [h3]; simp)
      rw [find]
      simp only [show ¬ nk = k by omega, this, if_true, if_false]
      exact h2
    · rw [toL, h3]; rfl
theorem outR_spec : ∀ {t : T}, t ≠ .nil → ∃ nk nv nl rest, t.outR = .nd nk nv nl .nil ∧ t.toL = rest ++ [(nk, nv)]
  | .nil => fun h => absurd rfl h
  | .nd k v l .nil => fun _ => ⟨k, v, l, l.toL, by simp [outR], by simp [toL]⟩
  | .nd k v l (.nd a b c d) => by
    intro _
    obtain ⟨nk, nv, nr, rest, h1, h3⟩ := outR_spec (t := .nd a b c d) (by simp)
    refine ⟨nk, nv, nr, l.toL ++ (k, v) :: rest, by rw [outR]; exact h1, ?_⟩
    rw [toL, h3]; simp
theorem dropped_spec {k v : Int} {l r : T} (ha : (T.nd k v l r).avl) (hs : (T.nd k v l r).so) :
    (T.nd k v l r).dropped.toL = l.toL ++ r.toL ∧ (T.nd k v l r).dropped.avl ∧ (T.nd k v l r).dropped.h ≤ (T.nd k v l r).h ∧ (T.nd k v l r).h ≤ (T.nd k v l r).dropped.h + 1 := by
  obtain ⟨a1, a2, a3, a4⟩ := ha
  obtain ⟨s1, s2, s3, s4⟩ := so_nd hs
  cases r with
  | nil => simp only [dropped, outL, toL, h] at *; refine ⟨by simp, a1, ?_, ?_⟩ <;> omega
  | nd ck cv cl cr =>
    obtain ⟨nk, nv, nr, rest, h1, h2, h3⟩ := outL_spec s2 (by simp)
    generalize hr : T.nd ck cv cl cr = r at *
    have hd : (T.nd k v l r).dropped = (T.nd nk nv l (r.repl nk (fun _ => nr))).bal := by
      show (match r.outL with | .nil => l | .nd nk nv _ nr => (T.nd nk nv l (r.repl nk (fun _ => nr))).bal) = _; rw [h1]
    rw [hd]
    have hfa := find_avl (key := nk) a2
    rw [h2] at hfa
    obtain ⟨b1, b2, b3⟩ := repl_dn (key := nk) (f := fun _ => nr) a2 hfa.2.1 (by rw [h2]; simp only [h]; omega) (by rw [h2]; simp only [h]; omega)
    obtain ⟨c1, c2, c3, c4⟩ := bal_avl (k := nk) (v := nv) a1 b1 (by omega) (by omega)
    refine ⟨?_, c1, ?_, ?_⟩
    · rw [toL_bal, toL]
      obtain ⟨A, C, p1, p2, p3, p4⟩ := repl_toL (key := nk) (f := fun _ => nr) s2
      rw [p2, p1, h2]
      cases A with
      | nil => simp [toL]
      | cons x A =>
        rw [h3] at p1
        simp at p1
        have := p3 x (by simp)
        rw [← p1.1] at this
        exact absurd this (Int.lt_irrefl _)
    · simp only [h] at *; omega
    · simp only [h] at *
      by_cases hh : l.h ≤ (repl nk (fun _ => nr) r).h + 1
      · rw [c4 hh (by omega)]; omega
      · omega
theorem hold_spec {key w : Int} {s : T} (ha : s.avl) : (hold key w s).avl ∧ s.h ≤ (hold key w s).h ∧ (hold key w s).h ≤ s.h + 1 := by
  cases s with
  | nil => simp [hold, avl, h]
  | nd k v l r => simp only [hold, avl, h] at *; exact ⟨ha, by omega, by omega⟩
theorem put_avl {key w : Int} {t : T} (ha : t.avl) : (t.put key w).avl ∧ t.h ≤ (t.put key w).h ∧ (t.put key w).h ≤ t.h + 1 := by
  obtain ⟨h1, h2, h3⟩ := hold_spec (key := key) (w := w) (find_avl (key := key) ha)
  exact repl_up ha h1 h2 h3
/-- how a key stands among the others: A below it, C above it. -/
structure At (key : Int) (t : T) (A C : List (Int × Int)) : Prop where
  lo : ∀ a ∈ A, a.1 < key
  hi : ∀ c ∈ C, key < c.1
  is : (t.get key = none ∧ t.toL = A ++ C) ∨ ∃ u, t.get key = some u ∧ t.toL = A ++ (key, u) :: C
theorem put_toL {key w : Int} {t : T} (hs : t.so) : ∃ A C, At key t A C ∧ (t.put key w).toL = A ++ (key, w) :: C := by
  obtain ⟨A, C, h1, h2, h3, h4⟩ := repl_toL (key := key) (f := hold key w) hs
  rcases find_key (key := key) t with e | ⟨v, l, r, e⟩
  · rw [e] at h1 h2
    refine ⟨A, C, ⟨h3, h4, Or.inl ⟨by unfold get; rw [e]; rfl, by simpa [toL] using h1⟩⟩, ?_⟩
    unfold put; rw [h2]; simp [hold, toL]
  · have hsf := find_so (key := key) hs
    rw [e] at h1 h2 hsf
    obtain ⟨_, _, q1, q2⟩ := so_nd hsf
    refine ⟨A ++ l.toL, r.toL ++ C, ⟨?_, ?_, Or.inr ⟨v, by unfold get; rw [e]; rfl, by rw [h1]; simp [toL]⟩⟩, ?_⟩
    · intro a ha; rcases List.mem_append.1 ha with ha | ha; exact h3 a ha; exact q1 a ha
    · intro a ha; rcases List.mem_append.1 ha with ha | ha; exact q2 a ha; exact h4 a ha
    · unfold put; rw [h2]; simp [hold, toL]
theorem drop_spec {key : Int} {t : T} (ha : t.avl) (hs : t.so) : (t.drop key).avl ∧ ∃ A C, At key t A C ∧ (t.drop key).toL = A ++ C := by
  obtain ⟨A, C, h1, h2, h3, h4⟩ := repl_toL (key := key) (f := dropped) hs
  rcases find_key (key := key) t with e | ⟨v, l, r, e⟩
  · rw [e] at h1
    have hd : t.drop key = t := by unfold drop; rw [e]
    rw [hd]
    refine ⟨ha, A, C, ⟨h3, h4, Or.inl ⟨by unfold get; rw [e]; rfl, by simpa [toL] using h1⟩⟩, by simpa [toL] using h1⟩
  · have hsf := find_so (key := key) hs
    have haf := find_avl (key := key) ha
    have hd : t.drop key = t.repl key dropped := by unfold drop; rw [e]
    rw [e] at h1 h2 hsf haf
    obtain ⟨_, _, q1, q2⟩ := so_nd hsf
    obtain ⟨d1, d2, d3, d4⟩ := dropped_spec haf hsf
    obtain ⟨b1, b2, b3⟩ := repl_dn (key := key) (f := dropped) ha (by rw [e]; exact d2) (by rw [e]; exact d3) (by rw [e]; exact d4)
    rw [hd]
    refine ⟨b1, A ++ l.toL, r.toL ++ C, ⟨?_, ?_, Or.inr ⟨v, by unfold get; rw [e]; rfl, by rw [h1]; simp [toL]⟩⟩, ?_⟩
    · intro a ha; rcases List.mem_append.1 ha with ha | ha; exact h3 a ha; exact q1 a ha
    · intro a ha; rcases List.mem_append.1 ha with ha | ha; exact q2 a ha; exact h4 a ha
    · rw [h2, d1]; simp
theorem At.so_put {key w : Int} {t : T} {A C : List (Int × Int)} (hs : t.so) (h : At key t A C) : (A ++ (key, w) :: C).Pairwise (fun a b => a.1 < b.1) := by
  obtain ⟨h1, h2, h3⟩ := h
  have hAC : (A ++ C).Pairwise (fun a b : Int × Int => a.1 < b.1) := by
    rcases h3 with ⟨_, e⟩ | ⟨u, _, e⟩
    · unfold so at hs; rw [e] at hs; exact hs
    · unfold so at hs; rw [e] at hs
      rw [List.pairwise_append] at hs ⊢
      rw [List.pairwise_cons] at hs
      exact ⟨hs.1, hs.2.1.2, fun a ha b hb => hs.2.2 a ha b (List.mem_cons_of_mem _ hb)⟩
  rw [List.pairwise_append] at hAC ⊢
  rw [List.pairwise_cons]
  refine ⟨hAC.1, ⟨fun c hc => h2 c hc, hAC.2.1⟩, ?_⟩
  intro a ha b hb
  rcases List.mem_cons.1 hb with rfl | hb
  · exact h1 a ha
  · exact hAC.2.2 a ha b hb
theorem At.so_drop {key : Int} {t : T} {A C : List (Int × Int)} (hs : t.so) (h : At key t A C) : (A ++ C).Pairwise (fun a b => a.1 < b.1) := by
  have := h.so_put (w := 0) hs
  rw [List.pairwise_append] at this ⊢
  rw [List.pairwise_cons] at this
  exact ⟨this.1, this.2.1.2, fun a ha b hb => this.2.2 a ha b (List.mem_cons_of_mem _ hb)⟩
/-- a tree that is a flat map. -/
structure ok (t : T) : Prop where
  av : t.avl
  srt : t.so
theorem ok_nil : ok .nil := ⟨trivial, by simp [so, toL]⟩
theorem ok.put {t : T} (h : ok t) (key w : Int) : ok (t.put key w) := by
  obtain ⟨A, C, h1, h2⟩ := put_toL (key := key) (w := w) h.srt
  exact ⟨(put_avl h.av).1, by unfold so; rw [h2]; exact h1.so_put h.srt⟩
theorem ok.drop {t : T} (h : ok t) (key : Int) : ok (t.drop key) := by
  obtain ⟨h0, A, C, h1, h2⟩ := drop_spec (key := key) h.av h.srt
  exact ⟨h0, by unfold so; rw [h2]; exact h1.so_drop h.srt⟩
theorem n_put {t : T} (h : t.so) (key w : Int) : (t.put key w).n = t.n + (if (t.get key).isSome then 0 else 1) := by
  obtain ⟨A, C, h1, h2⟩ := put_toL (key := key) (w := w) h
  rw [← toL_len, ← toL_len, h2]
  rcases h1.is with ⟨e1, e2⟩ | ⟨u, e1, e2⟩ <;> simp [e1, e2] <;> omega
theorem n_drop {t : T} (h : ok t) (key : Int) : (t.drop key).n + (if (t.get key).isSome then 1 else 0) = t.n := by
  obtain ⟨h0, A, C, h1, h2⟩ := drop_spec (key := key) h.av h.srt
  rw [← toL_len, ← toL_len, h2]
  rcases h1.is with ⟨e1, e2⟩ | ⟨u, e1, e2⟩ <;> simp [e1, e2] <;> omega
theorem n_put_le {t : T} (h : t.so) (key w : Int) : (t.put key w).n ≤ t.n + 1 := by rw [n_put h]; split <;> omega
theorem n_drop_le {t : T} (h : ok t) (key : Int) : (t.drop key).n ≤ t.n := by have := n_drop h key; omega
/-- the least number of nodes of a height. -/
def F : Nat → Nat
  | 0 => 0
  | 1 => 1
  | m + 2 => F (m + 1) + F m + 1
theorem F_mono1 : ∀ m, F m ≤ F (m + 1)
  | 0 => by simp [F]
  | m + 1 => by show F (m + 1) ≤ F (m + 1) + F m + 1; omega
theorem F_mono {a b : Nat} (h : a ≤ b) : F a ≤ F b := by
  induction h with
  | refl => exact Nat.le_refl _
  | step _ ih => exact Nat.le_trans ih (F_mono1 _)
theorem F_le : ∀ {t : T}, t.avl → F t.h ≤ t.n
  | .nil => fun _ => by simp [F, h]
  | .nd k v l r => by
    intro ha
    obtain ⟨a1, a2, a3, a4⟩ := ha
    have hl := F_le a1
    have hr := F_le a2
    simp only [h, n]
    rcases Nat.le_total l.h r.h with c | c
    · rw [Nat.max_eq_right c]
      cases hr' : r.h with
      | zero => simp only [F]; omega
      | succ m =>
        rw [show 1 + (m + 1) = m + 2 by omega]
        have := F_mono (show m ≤ l.h by omega)
        rw [hr'] at hr
        show F (m + 1) + F m + 1 ≤ _
        omega
    · rw [Nat.max_eq_left c]
      cases hr' : l.h with
      | zero => simp only [F]; omega
      | succ m =>
        rw [show 1 + (m + 1) = m + 2 by omega]
        have := F_mono (show m ≤ r.h by omega)
        rw [hr'] at hl
        show F (m + 1) + F m + 1 ≤ _
        omega
theorem lt_pow : ∀ t : T, t.n < 2 ^ t.h
  | .nil => by simp [n, h]
  | .nd k v l r => by
    have hl := lt_pow l
    have hr := lt_pow r
    simp only [h, n]
    have e1 := Nat.pow_le_pow_right (n := 2) (by omega) (Nat.le_max_left l.h r.h)
    have e2 := Nat.pow_le_pow_right (n := 2) (by omega) (Nat.le_max_right l.h r.h)
    rw [Nat.pow_add]
    omega
theorem F_step (m a b : Nat) (h1 : F m = a) (h2 : F (m + 1) = b) : F (m + 2) = b + a + 1 := by
  show F (m + 1) + F m + 1 = _
  rw [h1, h2]
theorem F_45 : F 45 = 2971215072 := by
  have f0 : F 0 = 0 := rfl
  have f1 : F 1 = 1 := rfl
  have f2 : F 2 = 2 := F_step 0 _ _ f0 f1
  have f3 : F 3 = 4 := F_step 1 _ _ f1 f2
  have f4 : F 4 = 7 := F_step 2 _ _ f2 f3
  have f5 : F 5 = 12 := F_step 3 _ _ f3 f4
  have f6 : F 6 = 20 := F_step 4 _ _ f4 f5
  have f7 : F 7 = 33 := F_step 5 _ _ f5 f6
  have f8 : F 8 = 54 := F_step 6 _ _ f6 f7
  have f9 : F 9 = 88 := F_step 7 _ _ f7 f8
  have f10 : F 10 = 143 := F_step 8 _ _ f8 f9
  have f11 : F 11 = 232 := F_step 9 _ _ f9 f10
  have f12 : F 12 = 376 := F_step 10 _ _ f10 f11
  have f13 : F 13 = 609 := F_step 11 _ _ f11 f12
  have f14 : F 14 = 986 := F_step 12 _ _ f12 f13
  have f15 : F 15 = 1596 := F_step 13 _ _ f13 f14
  have f16 : F 16 = 2583 := F_step 14 _ _ f14 f15
  have f17 : F 17 = 4180 := F_step 15 _ _ f15 f16
  have f18 : F 18 = 6764 := F_step 16 _ _ f16 f17
  have f19 : F 19 = 10945 := F_step 17 _ _ f17 f18
  have f20 : F 20 = 17710 := F_step 18 _ _ f18 f19
  have f21 : F 21 = 28656 := F_step 19 _ _ f19 f20
  have f22 : F 22 = 46367 := F_step 20 _ _ f20 f21
  have f23 : F 23 = 75024 := F_step 21 _ _ f21 f22
  have f24 : F 24 = 121392 := F_step 22 _ _ f22 f23
  have f25 : F 25 = 196417 := F_step 23 _ _ f23 f24
  have f26 : F 26 = 317810 := F_step 24 _ _ f24 f25
  have f27 : F 27 = 514228 := F_step 25 _ _ f25 f26
  have f28 : F 28 = 832039 := F_step 26 _ _ f26 f27
  have f29 : F 29 = 1346268 := F_step 27 _ _ f27 f28
  have f30 : F 30 = 2178308 := F_step 28 _ _ f28 f29
  have f31 : F 31 = 3524577 := F_step 29 _ _ f29 f30
  have f32 : F 32 = 5702886 := F_step 30 _ _ f30 f31
  have f33 : F 33 = 9227464 := F_step 31 _ _ f31 f32
  have f34 : F 34 = 14930351 := F_step 32 _ _ f32 f33
  have f35 : F 35 = 24157816 := F_step 33 _ _ f33 f34
  have f36 : F 36 = 39088168 := F_step 34 _ _ f34 f35
  have f37 : F 37 = 63245985 := F_step 35 _ _ f35 f36
  have f38 : F 38 = 102334154 := F_step 36 _ _ f36 f37
  have f39 : F 39 = 165580140 := F_step 37 _ _ f37 f38
  have f40 : F 40 = 267914295 := F_step 38 _ _ f38 f39
  have f41 : F 41 = 433494436 := F_step 39 _ _ f39 f40
  have f42 : F 42 = 701408732 := F_step 40 _ _ f40 f41
  have f43 : F 43 = 1134903169 := F_step 41 _ _ f41 f42
  have f44 : F 44 = 1836311902 := F_step 42 _ _ f42 f43
  have f45 : F 45 = 2971215072 := F_step 43 _ _ f43 f44
  exact f45
theorem h_le {t : T} (ha : t.avl) (hn : t.n < 2971215072) : t.h ≤ 44 := by
  have h1 := F_le ha
  by_cases hc : 45 ≤ t.h
  · have := F_mono hc
    rw [F_45] at this
    omega
  · omega
/-- the nodes' places. -/
theorem find_n (key : Int) : ∀ t : T, (t.find key).n ≤ t.n
  | .nil => Nat.le_refl _
  | .nd k v l r => by
    have hl := find_n key l
    have hr := find_n key r
    unfold find
    split
    · exact Nat.le_refl _
    · split <;> simp only [n] <;> omega
theorem h_le_n : ∀ t : T, t.h ≤ t.n
  | .nil => Nat.le_refl _
  | .nd k v l r => by
    have hl := h_le_n l
    have hr := h_le_n r
    simp only [h, n]; omega
theorem get_iff {t : T} (hs : t.so) (key u : Int) : t.get key = some u ↔ (key, u) ∈ t.toL := by
  obtain ⟨A, C, h1, h2⟩ := put_toL (key := key) (w := 0) hs
  rcases h1.is with ⟨e1, e2⟩ | ⟨x, e1, e2⟩
  · rw [e1, e2]
    constructor
    · intro h; simp at h
    · intro h
      rcases List.mem_append.1 h with h | h
      · exact absurd (h1.lo _ h) (Int.lt_irrefl _)
      · exact absurd (h1.hi _ h) (Int.lt_irrefl _)
  · rw [e1, e2]
    constructor
    · intro h; simp at h; simp [h]
    · intro h
      rcases List.mem_append.1 h with h | h
      · exact absurd (h1.lo _ h) (Int.lt_irrefl _)
      · rcases List.mem_cons.1 h with h | h
        · simp at h; rw [h]
        · exact absurd (h1.hi _ h) (Int.lt_irrefl _)
theorem get_put {t : T} (h : ok t) (key w k : Int) : (t.put key w).get k = if k = key then some w else t.get k := by
  obtain ⟨A, C, h1, h2⟩ := put_toL (key := key) (w := w) h.srt
  have hs := (h.put key w).srt
  apply Option.ext
  intro u
  rw [get_iff hs, h2]
  by_cases e : k = key
  · subst e
    simp only [if_true, Option.some.injEq]
    constructor
    · intro hm
      rcases List.mem_append.1 hm with hm | hm
      · exact absurd (h1.lo _ hm) (Int.lt_irrefl _)
      · rcases List.mem_cons.1 hm with hm | hm
        · simp at hm; exact hm.symm
        · exact absurd (h1.hi _ hm) (Int.lt_irrefl _)
    · intro hm; simp [hm]
  · simp only [e, if_false]
    rw [get_iff h.srt]
    rcases h1.is with ⟨e1, e2⟩ | ⟨x, e1, e2⟩ <;> rw [e2] <;> simp [e]
theorem get_drop {t : T} (h : ok t) (key k : Int) : (t.drop key).get k = if k = key then none else t.get k := by
  obtain ⟨h0, A, C, h1, h2⟩ := drop_spec (key := key) h.av h.srt
  have hs := (h.drop key).srt
  apply Option.ext
  intro u
  rw [get_iff hs, h2]
  by_cases e : k = key
  · subst e
    simp only [if_true]
    constructor
    · intro hm
      rcases List.mem_append.1 hm with hm | hm
      · exact absurd (h1.lo _ hm) (Int.lt_irrefl _)
      · exact absurd (h1.hi _ hm) (Int.lt_irrefl _)
    · intro hm; simp at hm
  · simp only [e, if_false]
    rw [get_iff h.srt]
    rcases h1.is with ⟨e1, e2⟩ | ⟨x, e1, e2⟩ <;> rw [e2] <;> simp [e]
end T
end Go.Proofs.Ytldpkmegofncfaa
