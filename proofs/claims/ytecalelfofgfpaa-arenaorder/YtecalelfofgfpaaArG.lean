/-
  ArenaLives, plain: what stands between two rounds, and how it goes on.
-/
import Derived.Test.YtecalelfofgfpaaArF
namespace Go.Proofs.Ytecalelfofgfpaa
open Go.RowKit Go.Deep
set_option linter.unusedVariables false
set_option linter.unusedSimpArgs false

/-- the dropped ones, one behind the other. -/
def Ch (nd : Nat → Nd) : Option Nat → List Nat → Prop
  | none, [] => True
  | some b, c :: F => b = c ∧ Ch nd (nd b).be F
  | none, _ :: _ => False
  | some _, [] => False
theorem Ch.upd {nd : Nat → Nd} {b : Nat} {n : Nd} : ∀ (F : List Nat) (fr : Option Nat), b ∉ F → Ch nd fr F → Ch (upd nd b n) fr F
  | [], none, _, h => h
  | [], some _, _, h => h
  | _ :: _, none, _, h => h
  | c :: F, some d, hb, h => by
    obtain ⟨rfl, h2⟩ := h
    have hne : ¬ d = b := fun e => hb (by rw [e]; exact List.mem_cons_self)
    refine ⟨rfl, ?_⟩
    rw [upd_other _ _ _ _ hne]
    exact Ch.upd F _ (fun h => hb (List.mem_cons_of_mem _ h)) h2
/-- the nodes' places. -/
def Wf (s : ArS) : Prop := s.bs.Nodup ∧ ∀ i (h : i < s.bs.length), (s.nd s.bs[i]).idx = i
theorem Ar.wf {base : Nat} {w : World} {A : Nat} {s : ArS} (h : Ar base w A s) : Wf s := ⟨h.nod, fun i hi => (h.nds i hi).2.2⟩
theorem Wf.idx {s : ArS} (h : Wf s) {b : Nat} (hb : b ∈ s.bs) : s.bs[(s.nd b).idx]? = some b := by
  obtain ⟨i, hi, rfl⟩ := ArS.mem_get hb
  rw [h.2 i hi, List.getElem?_eq_getElem hi]
theorem Wf.lt {s : ArS} (h : Wf s) {b : Nat} (hb : b ∈ s.bs) : (s.nd b).idx < s.bs.length := by
  obtain ⟨i, hi, rfl⟩ := ArS.mem_get hb
  rw [h.2 i hi]; exact hi
def lifeAt (s : ArS) (i : Nat) : Nat := match s.bs[i]? with
  | none => 0
  | some b => (s.nd b).life
structure Lv (room : Nat) (s : ArS) (T : List (Nat × Nat)) (F : List Nat) : Prop where
  room : s.room = room
  tk : s.tk = T.length
  nod : T.Nodup
  mem : ∀ i l, (i, l) ∈ T ↔ ∃ b, s.at i l = some b
  ch : Ch s.nd s.fr F
  fnod : F.Nodup
  fre : ∀ b ∈ F, b ∈ s.bs ∧ (s.nd b).tk = false
  len : s.bs.length = T.length + F.length
  q : ∀ b ∈ s.bs, (s.nd b).q = none
  life : ∀ b ∈ s.bs, (s.nd b).life < 4294967296
def stk (s : ArS) (F : List Nat) : List Nat := (F.map fun b => (s.nd b).idx).reverse
theorem nodup_get {l : List Nat} (h : l.Nodup) {i j b : Nat} (hi : l[i]? = some b) (hj : l[j]? = some b) : i = j := by
  obtain ⟨h1, h2⟩ := List.getElem?_eq_some_iff.1 hi
  obtain ⟨h3, h4⟩ := List.getElem?_eq_some_iff.1 hj
  have hp := List.pairwise_iff_getElem.1 h
  rcases Nat.lt_trichotomy i j with hlt | heq | hgt
  · exact absurd (h2.trans h4.symm) (hp i j h1 h3 hlt)
  · exact heq
  · exact absurd (h4.trans h2.symm) (hp j i h3 h1 hgt)
theorem at_upd {s s' : ArS} (hw : s.bs.Nodup) {b : Nat} {n : Nd} (h1 : s'.bs = s.bs) (h2 : s'.nd = upd s.nd b n) {i : Nat} (hi : s.bs[i]? = some b) (i' l' : Nat) :
    s'.at i' l' = if i' = i then (if n.tk = true ∧ n.life = l' then some b else none) else s.at i' l' := by
  unfold ArS.at
  rw [h1, h2]
  by_cases e : i' = i
  · subst e
    rw [if_pos rfl, hi]
    simp only [upd_same]
  · rw [if_neg e]
    cases hx : s.bs[i']? with
    | none => rfl
    | some c =>
      have hne : ¬ c = b := by
        rintro rfl
        exact e (nodup_get hw hx hi)
      simp only [upd_other _ _ _ _ hne]
theorem at_more {s s' : ArS} {b : Nat} {n : Nd} (hb : b ∉ s.bs) (h1 : s'.bs = s.bs ++ [b]) (h2 : s'.nd = upd s.nd b n) (i' l' : Nat) :
    s'.at i' l' = if i' = s.bs.length then (if n.tk = true ∧ n.life = l' then some b else none) else s.at i' l' := by
  unfold ArS.at
  rw [h1, h2]
  by_cases e : i' = s.bs.length
  · subst e
    rw [if_pos rfl]
    simp [upd_same]
  · rw [if_neg e]
    by_cases e2 : i' < s.bs.length
    · rw [List.getElem?_append_left e2, List.getElem?_eq_getElem e2]
      have hne : ¬ s.bs[i'] = b := fun e3 => hb (e3 ▸ List.getElem_mem e2)
      simp only [upd_other _ _ _ _ hne]
    · rw [List.getElem?_eq_none (by simp; omega), List.getElem?_eq_none (by omega)]
theorem life_upd {s s' : ArS} (hw : s.bs.Nodup) {b : Nat} {n : Nd} (h1 : s'.bs = s.bs) (h2 : s'.nd = upd s.nd b n) {i : Nat} (hi : s.bs[i]? = some b) : lifeAt s' = updN (lifeAt s) i n.life := by
  funext i'
  unfold lifeAt updN
  dsimp only
  rw [h1, h2]
  by_cases e : i' = i
  · subst e
    rw [if_pos rfl, hi]
    simp only [upd_same]
  · rw [if_neg e]
    cases hx : s.bs[i']? with
    | none => rfl
    | some c =>
      have hne : ¬ c = b := by
        rintro rfl
        exact e (nodup_get hw hx hi)
      simp only [upd_other _ _ _ _ hne]
theorem life_more {s s' : ArS} {b : Nat} {n : Nd} (hb : b ∉ s.bs) (h1 : s'.bs = s.bs ++ [b]) (h2 : s'.nd = upd s.nd b n) : lifeAt s' = updN (lifeAt s) s.bs.length n.life := by
  funext i'
  unfold lifeAt updN
  dsimp only
  rw [h1, h2]
  by_cases e : i' = s.bs.length
  · subst e
    rw [if_pos rfl]
    simp [upd_same]
  · rw [if_neg e]
    by_cases e2 : i' < s.bs.length
    · rw [List.getElem?_append_left e2, List.getElem?_eq_getElem e2]
      have hne : ¬ s.bs[i'] = b := fun e3 => hb (e3 ▸ List.getElem_mem e2)
      simp only [upd_other _ _ _ _ hne]
    · rw [List.getElem?_eq_none (by simp; omega), List.getElem?_eq_none (by omega)]
theorem stk_same {s s' : ArS} {b : Nat} {n : Nd} (h2 : s'.nd = upd s.nd b n) (hx : n.idx = (s.nd b).idx) (F : List Nat) : stk s' F = stk s F := by
  unfold stk
  congr 1
  apply List.map_congr_left
  intro c _
  rw [h2]
  by_cases e : c = b
  · subst e; rw [upd_same, hx]
  · rw [upd_other _ _ _ _ e]
/-- one more is taken. -/
theorem lv_take {room : Nat} {s : ArS} {T : List (Nat × Nat)} {F : List Nat} (h : Lv room s T F) (hw : Wf s) {b : Nat} {s1 : ArS} (hs : Sp s b s1) (v : Int) :
    ∃ i F', (s1.nd b).idx = i ∧ (s1.nd b).life = lifeAt s i ∧ lifeAt s i < 4294967296 ∧ Lv room (s1.took b v) (T ++ [(i, (lifeAt s i + 1) % 4294967296)]) F' ∧ lifeAt (s1.took b v) = updN (lifeAt s) i ((lifeAt s i + 1) % 4294967296) ∧
      ((stk s F = stk (s1.took b v) F' ++ [i] ∧ (s1.took b v).bs = s.bs ∧ i < s.bs.length) ∨ (F = [] ∧ F' = [] ∧ i = s.bs.length ∧ (s1.took b v).bs.length = s.bs.length + 1)) := by
  have hL : ∀ i, lifeAt s i < 4294967296 := by
    intro i
    unfold lifeAt
    split
    · decide
    · rename_i c hc
      exact h.life c (List.mem_of_getElem? hc)
  rcases hs with ⟨hf, rfl⟩ | ⟨hf, hb, rfl⟩
  · have hch := h.ch
    rw [hf] at hch
    cases F with
    | nil => exact absurd hch (by simp [Ch])
    | cons c F' =>
      obtain ⟨rfl, hch⟩ := hch
      obtain ⟨hbm, htk⟩ := h.fre b List.mem_cons_self
      have hbF : b ∉ F' := (List.nodup_cons.1 h.fnod).1
      have hib := hw.idx hbm
      have hlife : (s.nd b).life = lifeAt s (s.nd b).idx := by unfold lifeAt; rw [hib]
      have e1 : ((s.pop b).nd b) = { s.nd b with be := none } := by simp [ArS.pop, upd_same]
      have e2 : ((s.pop b).took b v).nd = upd s.nd b { s.nd b with be := none, life := ((s.nd b).life + 1) % 4294967296, tk := true, v := v } := by
        simp only [ArS.took, e1]
        simp only [ArS.pop, upd_upd]
      have hno : ∀ l, ((s.nd b).idx, l) ∉ T := by
        intro l hm
        obtain ⟨c, hc⟩ := (h.mem _ _).1 hm
        obtain ⟨_, h2, _, h4⟩ := ArS.at_mem hc
        rw [hib] at h4
        obtain rfl := Option.some.inj h4
        rw [htk] at h2
        simp at h2
      refine ⟨(s.nd b).idx, F', by rw [e1], by rw [e1]; exact hlife, hL _, ?_, ?_, Or.inl ⟨?_, rfl, hw.lt hbm⟩⟩
      · rw [← hlife]
        refine ⟨h.room, ?_, ?_, ?_, ?_, (List.nodup_cons.1 h.fnod).2, ?_, ?_, ?_, ?_⟩
        · simp [ArS.took, ArS.pop, h.tk]
        · rw [List.nodup_append]
          refine ⟨h.nod, by simp, ?_⟩
          rintro x hx y hy rfl
          simp at hy
          subst hy
          exact hno _ hx
        · intro i l
          rw [at_upd (s := s) (s' := (s.pop b).took b v) hw.1 rfl e2 hib]
          simp only [List.mem_append, List.mem_singleton, Prod.mk.injEq]
          by_cases e : i = (s.nd b).idx
          · subst e
            rw [if_pos rfl]
            constructor
            · rintro (hx | ⟨_, rfl⟩)
              · exact absurd hx (hno _)
              · exact ⟨b, by simp⟩
            · rintro ⟨c, hc⟩
              split at hc
              · rename_i hh; exact Or.inr ⟨rfl, hh.2.symm⟩
              · simp at hc
          · rw [if_neg e, ← h.mem]
            simp [e]
        · rw [e2]
          show Ch _ (s.nd b).be F'
          exact Ch.upd F' _ hbF hch
        · intro c hc
          obtain ⟨h1, h2⟩ := h.fre c (List.mem_cons_of_mem _ hc)
          refine ⟨h1, ?_⟩
          rw [e2, upd_other _ _ _ _ (by rintro rfl; exact hbF hc)]
          exact h2
        · show s.bs.length = _
          rw [h.len]
          simp
          omega
        · intro c hc
          rw [e2]
          by_cases e : c = b
          · subst e; rw [upd_same]; exact h.q c hc
          · rw [upd_other _ _ _ _ e]; exact h.q c hc
        · intro c hc
          rw [e2]
          by_cases e : c = b
          · subst e; rw [upd_same]; exact Nat.mod_lt _ (by decide)
          · rw [upd_other _ _ _ _ e]; exact h.life c hc
      · rw [life_upd (s := s) (s' := (s.pop b).took b v) hw.1 rfl e2 hib, ← hlife]
      · rw [stk_same (s := s) (s' := (s.pop b).took b v) e2 rfl]
        simp [stk]
  · have hch := h.ch
    rw [hf] at hch
    cases F with
    | cons c F' => exact absurd hch (by simp [Ch])
    | nil =>
      have e1 : ((s.more b).nd b) = ndN s.bs.length := by simp [ArS.more, upd_same]
      have e2 : ((s.more b).took b v).nd = upd s.nd b { ndN s.bs.length with life := (0 + 1) % 4294967296, tk := true, v := v } := by
        simp only [ArS.took, e1]
        simp only [ArS.more, upd_upd, ndN]
      have hl0 : lifeAt s s.bs.length = 0 := by unfold lifeAt; rw [List.getElem?_eq_none (Nat.le_refl _)]
      have hno : ∀ l, (s.bs.length, l) ∉ T := by
        intro l hm
        obtain ⟨c, hc⟩ := (h.mem _ _).1 hm
        rw [ArS.at_none (Nat.le_refl _)] at hc
        simp at hc
      refine ⟨s.bs.length, [], by rw [e1]; rfl, by rw [e1, hl0]; rfl, hL _, ?_, ?_, Or.inr ⟨rfl, rfl, rfl, by simp [ArS.took, ArS.more]⟩⟩
      · rw [hl0]
        refine ⟨h.room, ?_, ?_, ?_, ?_, List.nodup_nil, fun c hc => by simp at hc, ?_, ?_, ?_⟩
        · simp [ArS.took, ArS.more, h.tk]
        · rw [List.nodup_append]
          refine ⟨h.nod, by simp, ?_⟩
          rintro x hx y hy rfl
          simp at hy
          subst hy
          exact hno _ hx
        · intro i l
          rw [at_more (s := s) (s' := (s.more b).took b v) hb rfl e2]
          simp only [List.mem_append, List.mem_singleton, Prod.mk.injEq]
          by_cases e : i = s.bs.length
          · subst e
            rw [if_pos rfl]
            constructor
            · rintro (hx | ⟨_, rfl⟩)
              · exact absurd hx (hno _)
              · exact ⟨b, by simp⟩
            · rintro ⟨c, hc⟩
              split at hc
              · rename_i hh; exact Or.inr ⟨rfl, hh.2.symm⟩
              · simp at hc
          · rw [if_neg e, ← h.mem]
            simp [e]
        · show Ch _ s.fr []
          rw [hf]
          trivial
        · show (s.bs ++ [b]).length = _
          have := h.len
          simp at this ⊢
          omega
        · intro c hc
          have hc : c ∈ s.bs ++ [b] := hc
          rw [e2]
          by_cases e : c = b
          · subst e; rw [upd_same]; rfl
          · rw [upd_other _ _ _ _ e]
            simp [e] at hc
            exact h.q c hc
        · intro c hc
          have hc : c ∈ s.bs ++ [b] := hc
          rw [e2]
          by_cases e : c = b
          · subst e; rw [upd_same]; exact Nat.mod_lt _ (by decide)
          · rw [upd_other _ _ _ _ e]
            simp [e] at hc
            exact h.life c hc
      · rw [life_more (s := s) (s' := (s.more b).took b v) hb rfl e2, hl0]
theorem wout_mem {l : List (Nat × Nat)} {i lf : Nat} (x : Nat × Nat) : x ∈ wout l i lf ↔ x ∈ l ∧ ¬ x = (i, lf) := by
  obtain ⟨a, b⟩ := x
  unfold wout
  simp only [List.mem_filter, Bool.not_eq_true', Bool.and_eq_false_iff, beq_eq_false_iff_ne, Prod.mk.injEq]
  constructor
  · rintro ⟨h1, h2⟩
    exact ⟨h1, fun h => by rcases h2 with h2 | h2; exact h2 h.1; exact h2 h.2⟩
  · rintro ⟨h1, h2⟩
    refine ⟨h1, ?_⟩
    by_cases e : a = i
    · exact Or.inr (fun h => h2 ⟨e, h⟩)
    · exact Or.inl e
theorem wout_cut : ∀ (l : List (Nat × Nat)) (i lf : Nat), l.Nodup → (i, lf) ∈ l → (wout l i lf).length + 1 = l.length
  | [], i, lf, _, h => by simp at h
  | x :: l, i, lf, hn, h => by
    obtain ⟨h1, h2⟩ := List.nodup_cons.1 hn
    unfold wout
    rw [List.filter_cons]
    by_cases e : x = (i, lf)
    · subst e
      simp only [beq_self_eq_true, Bool.and_self, Bool.not_true, Bool.false_eq_true, if_false, List.length_cons]
      congr 1
      have : l.filter (fun x => !(x.1 == i && x.2 == lf)) = l := by
        rw [List.filter_eq_self]
        intro y hy
        simp only [Bool.not_eq_true', Bool.and_eq_false_iff, beq_eq_false_iff_ne]
        by_cases e1 : y.1 = i
        · refine Or.inr fun e2 => h1 ?_
          have : y = (i, lf) := Prod.ext e1 e2
          rw [← this]; exact hy
        · exact Or.inl e1
      rw [this]
    · have hm : (i, lf) ∈ l := by
        rcases List.mem_cons.1 h with h | h
        · exact absurd h.symm e
        · exact h
      have ih := wout_cut l i lf h2 hm
      unfold wout at ih
      rw [if_pos]
      · simp only [List.length_cons]; omega
      · simp only [Bool.not_eq_true', Bool.and_eq_false_iff, beq_eq_false_iff_ne]
        by_cases e1 : x.1 = i
        · exact Or.inr fun e2 => e (Prod.ext e1 e2)
        · exact Or.inl e1
/-- one is dropped. -/
theorem lv_drop {room : Nat} {s : ArS} {T : List (Nat × Nat)} {F : List Nat} (h : Lv room s T F) (hw : Wf s) {i l b : Nat} (hm : (i, l) ∈ T) (hat : s.at i l = some b) :
    Lv room (s.gone b) (wout T i l) (b :: F) ∧ lifeAt (s.gone b) = lifeAt s ∧ stk (s.gone b) (b :: F) = stk s F ++ [i] := by
  obtain ⟨hbm, htk, hlf, hib⟩ := ArS.at_mem hat
  have hidx : (s.nd b).idx = i := by
    have := hw.idx hbm
    exact nodup_get hw.1 this hib
  have e2 : (s.gone b).nd = upd s.nd b { s.nd b with tk := false, v := 0, be := s.fr } := rfl
  have hbF : b ∉ F := by
    intro hF
    rw [(h.fre b hF).2] at htk
    simp at htk
  have hcut := wout_cut T i l h.nod hm
  refine ⟨⟨h.room, ?_, List.Pairwise.filter _ h.nod, ?_, ?_, List.nodup_cons.2 ⟨hbF, h.fnod⟩, ?_, ?_, ?_, ?_⟩, ?_, ?_⟩
  · show s.tk - 1 = _
    rw [h.tk]; omega
  · intro i' l'
    rw [at_upd (s := s) (s' := s.gone b) hw.1 rfl e2 hib, wout_mem]
    by_cases e : i' = i
    · subst e
      rw [if_pos rfl]
      constructor
      · rintro ⟨h1, h2⟩
        obtain ⟨c, hc⟩ := (h.mem _ _).1 h1
        obtain ⟨_, _, h5, h6⟩ := ArS.at_mem hc
        rw [hib] at h6
        obtain rfl := Option.some.inj h6
        exact absurd (by rw [← h5, hlf]) h2
      · rintro ⟨c, hc⟩
        simp at hc
    · rw [if_neg e, h.mem]
      constructor
      · rintro ⟨h1, h2⟩; exact h1
      · intro h1
        exact ⟨h1, fun h => e (by simp at h; exact h.1)⟩
  · rw [e2]
    show Ch _ (some b) (b :: F)
    refine ⟨rfl, ?_⟩
    rw [upd_same]
    exact Ch.upd F _ hbF h.ch
  · intro c hc
    rw [e2]
    by_cases e : c = b
    · subst e; exact ⟨hbm, by rw [upd_same]⟩
    · rw [upd_other _ _ _ _ e]
      rcases List.mem_cons.1 hc with hc | hc
      · exact absurd hc e
      · exact h.fre c hc
  · show s.bs.length = _
    rw [h.len]
    simp only [List.length_cons]
    omega
  · intro c hc
    rw [e2]
    by_cases e : c = b
    · subst e; rw [upd_same]; exact h.q c hc
    · rw [upd_other _ _ _ _ e]; exact h.q c hc
  · intro c hc
    rw [e2]
    by_cases e : c = b
    · subst e; rw [upd_same]; exact h.life c hc
    · rw [upd_other _ _ _ _ e]; exact h.life c hc
  · rw [life_upd (s := s) (s' := s.gone b) hw.1 rfl e2 hib]
    funext x
    unfold updN
    split
    · rename_i e; subst e
      unfold lifeAt; rw [hib]
    · rfl
  · rw [stk_same (s := s) (s' := s.gone b) e2 rfl]
    simp [stk, hidx]
end Go.Proofs.Ytecalelfofgfpaa
