/-
  Contracts and plain facts, part 6.
-/
import Derived.Test.YtacdjioieclggaaDoorZe
namespace Go.Proofs.YtacdjioieclggaaDoor
open Go.RowKit Go.Deep Go.Lib Go.Shelf Go.Sort
set_option linter.unusedVariables false
theorem bodyR_back0 (body : List UInt8) (hlast : body.getLast? = some 1) : ∀ (r cur : List UInt8) (K : List UInt8) (L : List (Int × List UInt8)) (p : Nat), body = cur ++ r → (1 : UInt8) ∉ cur → bodyR body r cur.length 0 [] [] = (K, L, p, 0) →
    KindOk K ∧ body = bodyB K L ∧ firstE [] L = 0 ∧ L.length ≤ 64
  | [], cur, K, L, p, hb, h1, h => by
    rw [List.append_nil] at hb
    subst hb
    exact absurd (List.mem_of_getLast? hlast) h1
  | c :: r, cur, K, L, p, hb, h1, h => by
    simp only [bodyR] at h
    by_cases hc : c = 1
    · subst hc
      have hcut : (body.drop 0).take (cur.length - 0) = cur := by
        rw [hb, List.drop_zero, Nat.sub_zero, List.take_left' rfl]
      rw [if_neg (by simp), hcut] at h
      obtain ⟨x, ok, hf⟩ : ∃ x ok, fieldE cur = (x, ok) := ⟨_, _, rfl⟩
      rw [hf] at h
      simp only at h
      split at h
      · simp at h
      · rename_i hok
        have hok' : ok = true := by simpa using hok
        subst hok'
        rw [if_pos trivial] at h
        obtain ⟨k, e, hk⟩ : ∃ k e, kindE x = (k, e) := ⟨_, _, rfl⟩
        rw [hk] at h
        simp only at h
        split at h
        · rename_i hne
          simp only [Prod.mk.injEq] at h
          exact absurd h.2.2.2 hne
        · rename_i hne
          have he : e = 0 := by simpa using hne
          subst he
          unfold kindE at hk
          split at hk
          · rename_i hx
            simp only [Prod.mk.injEq] at hk
            obtain ⟨rfl, _⟩ := hk
            have e : cur.length + 1 = (cur ++ [1]).length := by simp
            rw [e] at h
            have hl2 : ([] : List UInt8) ++ r = [] ∨ (([] : List UInt8) ++ r).getLast? = some 1 := by
              cases r with
              | nil => exact Or.inl rfl
              | cons d r =>
                refine Or.inr ?_
                rw [hb] at hlast
                simpa [List.getLast?_append] using hlast
            obtain ⟨rfl, m, hL, hm, hf2, hl3⟩ := bodyR_back body x.2 r [] (cur ++ [1]) [] K L p (by rw [hb]; simp) (by simp) (by simp) hl2 (by simp) (by simpa using h)
            rw [List.nil_append] at hL hm
            subst hL
            refine ⟨hx.2, ?_, hf2, by simpa using hl3⟩
            rw [hb, fieldE_inv hf, hm, hx.1]
            simp [bodyB, fieldB]
          · simp at hk
    · rw [if_pos hc] at h
      exact bodyR_back0 body hlast r (cur ++ [c]) K L p (by rw [hb]; simp) (by simp; exact ⟨h1, fun e => hc e.symm⟩) (by rw [List.length_append, List.length_cons, List.length_nil, Nat.zero_add]; exact h)
theorem lenE_parts {b : List UInt8} {f t p : Nat} (h : lenE b = ((f, t), p, 0)) : ∃ d s, f = 10 + d + 1 ∧ t = f + s ∧ decDigits s = (b.drop 10).take d ∧ b[10 + d]? = some 1 := by
  unfold lenE at h
  split at h
  · simp at h
  · split at h
    · simp at h
    · rename_i s hs
      split at h
      · simp at h
      · rename_i hc
        split at h
        · simp at h
        · simp only [Prod.mk.injEq] at h
          refine ⟨digN (b.drop 10) 0 5, s, h.1.1.symm, by rw [← h.1.1, ← h.1.2], (num_some _ _ hs).1, ?_⟩
          rcases Classical.em (b[10 + digN (b.drop 10) 0 5]? = some 1) with h | h
          · exact h
          · exact absurd (Or.inr h) hc
theorem outE_parts {b : List UInt8} {f t p : Nat} (h : outE b = ((f, t), p, 0)) : (begE b 0 10).2 = 0 ∧ (∃ p', lenE b = ((f, t), p', 0)) ∧ b[t - 1]? = some 1 := by
  unfold outE at h
  split at h
  · rename_i hn; simp only [Prod.mk.injEq] at h; exact absurd h.2.2 hn
  · rename_i hb
    split at h
    · rename_i hn; simp only [Prod.mk.injEq] at h; exact absurd h.2.2 hn
    · rename_i hl
      split at h
      · simp at h
      · split at h
        · simp at h
        · rename_i hT
          split at h
          · simp at h
          · simp only [Prod.mk.injEq] at h
            rw [h.1] at hT
            refine ⟨by simpa using hb, ⟨(lenE b).2.1, ?_⟩, ?_⟩
            · rw [← h.1, ← show (lenE b).2.2 = 0 by simpa using hl]
            · rcases Classical.em (b[t - 1]? = some 1) with h | h
              · exact h
              · exact absurd (Or.inr (Or.inr h)) hT
/-- what is decoded is what was encoded. -/
theorem decR_back {b k : List UInt8} {m : List (Int × List UInt8)} {n : Nat} (h : decR b = (k, m, n, 0)) : 1 ≤ n ∧ n ≤ b.length ∧ encE k m = 0 ∧ lineB k m = b.take n := by
  unfold decR at h
  obtain ⟨f, t, p, e, ho⟩ : ∃ f t p e, outE b = ((f, t), p, e) := ⟨_, _, _, _, rfl⟩
  rw [ho] at h
  simp only at h
  split at h
  · rename_i hn; simp only [Prod.mk.injEq] at h; exact absurd h.2.2.2 hn
  · rename_i he
    have he0 : e = 0 := by simpa using he
    subst he0
    split at h
    · rename_i hn; simp only [Prod.mk.injEq] at h; exact absurd h.2.2.2 hn
    · rename_i hbe
      obtain ⟨K, L, P, E, hB⟩ : ∃ x1 x2 x3 x4, bodyR ((b.drop f).take (t - f)) ((b.drop f).take (t - f)) 0 0 [] [] = (x1, x2, x3, x4) := ⟨_, _, _, _, rfl⟩
      rw [hB] at h hbe
      simp only [Prod.mk.injEq, ne_eq, Decidable.not_not] at h hbe
      obtain ⟨rfl, rfl, rfl, _⟩ := h
      subst hbe
      obtain ⟨_, k1, k2, k3, k4⟩ := outE_ok ho
      have hT := outE_trail ho
      obtain ⟨hbeg, ⟨p', hlen⟩, hlast⟩ := outE_parts ho
      obtain ⟨d, s, rfl, rfl, hds, hone⟩ := lenE_parts hlen
      obtain ⟨BD, hBD⟩ : ∃ x, (b.drop (10 + d + 1)).take (10 + d + 1 + s - (10 + d + 1)) = x := ⟨_, rfl⟩
      have hBl : BD.length = s := by rw [← hBD]; simp; omega
      have hBD2 : (b.drop (10 + d + 1)).take s = BD := by rw [← hBD]; congr 1; omega
      rw [hBD] at hB
      have hBlast : BD.getLast? = some 1 := by
        rw [List.getLast?_eq_getElem?, hBl, ← hBD2, List.getElem?_take_of_lt (by omega), List.getElem?_drop, ← hlast]
        congr 1
        omega
      obtain ⟨hK, hbody, hf1, hl64⟩ := bodyR_back0 BD hBlast BD [] K L P rfl (by simp) hB
      have hten : b.take 10 = [56, 61, 66, 82, 83, 46, 49, 1, 57, 61] := by
        obtain ⟨h10, hj⟩ := begE_ok b 10 0 hbeg (Nat.zero_le _)
        apply List.ext_getElem?
        intro j
        rcases Nat.lt_or_ge j 10 with hlt | hge
        · rw [List.getElem?_take_of_lt hlt]
          have := hj j hlt
          rw [Nat.zero_add] at this
          exact this
        · rw [List.getElem?_eq_none (by simp; omega), List.getElem?_eq_none (by simpa using hge)]
      have hA : aheadB K L = b.take (10 + d + 1 + s) := by
        unfold aheadB headB
        rw [← hbody, hBl, hds, List.take_add, List.take_add_one, List.take_add, hten, hone, hBD2]
        rfl
      have hLn : lineB K L = b.take (10 + d + 1 + s + 7) := by
        unfold lineB
        rw [hA, ← hT, ← List.take_add]
      refine ⟨by omega, k4, ?_, hLn⟩
      unfold encE
      rw [if_neg (by simpa using hK), if_neg (by omega), if_pos hf1, if_neg ?_]
      rw [hLn, List.length_take]
      omega
end Go.Proofs.YtacdjioieclggaaDoor
namespace Go.Proofs.YtacdjioieclggaaDoor
open Go.RowKit Go.Deep Go.Lib Go.Shelf Go.Sort
set_option linter.unusedVariables false
theorem Sb.grown {w w' : World} {q : Option Addr} {l : List UInt8} {row : Option Nat} (h : Sb w q l) (hg : w.grownBy w' row) (hne : ∀ a, q = some a → some a.block ≠ row) : Sb w' q l := fun i hi => by
  obtain ⟨b, o, e, h0⟩ := h i hi
  exact ⟨b, o, e, hg.cell h0 (hne ⟨b, o, none⟩ e)⟩
end Go.Proofs.YtacdjioieclggaaDoor
namespace Go.Proofs.YtacdjioieclggaaDoor
open Go.RowKit Go.Deep Go.Lib Go.Shelf Go.Sort
set_option linter.unusedVariables false
/-- bytes in memory, or none. -/
def Sg (w : World) (q : Option Addr) (cap : Nat) (l : List UInt8) : Prop := Sb w q l ∧ (q = none → l = [] ∧ cap = 0)
theorem Sg.on {w w' : World} {q : Option Addr} {cap : Nat} {l : List UInt8} (h : Sg w q cap l) (hb : Below w.heap.size w w') : Sg w' q cap l := ⟨h.1.on hb, h.2⟩
theorem own_cap {B : Nat} {W0 w : World} {v : Value} {l : List UInt8} (h : Own B W0 w v l) : ∃ q cap, v = .slice q l.length cap ∧ Sb w q l ∧ l.length ≤ cap ∧ cap < 9223372036854775808 := by
  obtain ⟨q, c, e, hS⟩ := h.form
  rcases h.1.2 with ⟨e2, hn⟩ | ⟨g, cap, cur, e2, hB, hg, h5, h6, h7, h8⟩
  · rw [e2] at e
    obtain ⟨rfl, _, rfl⟩ : none = q ∧ 0 = l.length ∧ 0 = c := by simpa using e
    exact ⟨none, 0, by rw [e2, hn], hS, by omega, by decide⟩
  · rw [e2] at e
    obtain ⟨rfl, rfl⟩ : some ⟨g, 0, none⟩ = q ∧ cap = c := by simpa using e
    exact ⟨_, cap, e2, hS, h5, by unfold maxLen at h6; omega⟩
theorem flat_ge : ∀ (l : List (Int × List UInt8)) (x : Int × List UInt8), x ∈ l → x.2.length ≤ (l.flatMap fieldB).length
  | y :: l, x, h => by
    rw [List.flatMap_cons, List.length_append]
    rcases List.mem_cons.1 h with rfl | h
    · rw [fieldB_len]; omega
    · have := flat_ge l x h; omega
/-- how long what stands in a line can be. -/
theorem line_small {k : List UInt8} {m : List (Int × List UInt8)} (h : encE k m = 0) : k.length ≤ 2048 ∧ m.length ≤ 64 ∧ ∀ x ∈ m, x.2.length ≤ 2048 := by
  unfold encE at h
  split at h
  · cases h
  · rename_i hk
    split at h
    · cases h
    · split at h
      · split at h
        · cases h
        · rename_i hl
          rw [lineB_len] at hl
          refine ⟨?_, by omega, fun x hx => ?_⟩
          · rcases (Decidable.not_not.1 hk).1 with h | h <;> omega
          · have h1 := flat_ge m x hx
            have h2 : (bodyB k m).length = (fieldB (35, k)).length + (m.flatMap fieldB).length := by unfold bodyB; simp
            omega
      · rename_i hf; exact absurd h hf
end Go.Proofs.YtacdjioieclggaaDoor
namespace Go.Proofs.YtacdjioieclggaaDoor.Msg
open Go.RowKit Go.Deep Go.Lib
set_option linter.unusedVariables false
set_option linter.unusedSimpArgs false
/-- the kind of a line. -/
def lineK (k : Int) : List UInt8 := if k = 1 then [68] else if k = 2 then [70] else if k = 3 then [71] else if k = 4 then [85, 69] else [56]
/-- a field, written. -/
def tagT (k : Int) (F : Int → Int) (t : Int) : List (Int × List UInt8) := (t, decDigits (F t).toNat) :: (if t = 34 then [(150, decDigits (k - 64).toNat)] else [])
def ltL (k : Int) (F : Int → Int) (L : List Int) : List (Int × List UInt8) := L.flatMap (tagT k F)
theorem ltL_step (k : Int) (F : Int → Int) (L : List Int) (j : Nat) (h : j < L.length) : ltL k F (L.take (j + 1)) = ltL k F (L.take j) ++ tagT k F L[j] := by
  unfold ltL
  rw [List.take_succ_eq_append_getElem h, List.flatMap_append]
  simp
theorem val_dig (n : Nat) : ValOk (decDigits n) := ⟨dec_ne n, fun c hc => by
  have := dec_dig n c hc
  unfold Dig at this
  unfold Pr
  omega⟩
theorem first_of : ∀ (r a : List (Int × List UInt8)), (∀ x ∈ r, TagOk x.1 ∧ ValOk x.2) → ((a ++ r).map (·.1)).Nodup → firstE a r = 0
  | [], a, _, _ => rfl
  | x :: r, a, h, hn => by
    have h1 : fitsE a x = 0 := by
      unfold fitsE
      rw [if_neg (not_not_intro (h x (by simp)).1)]
      have hv : val? a x.1 = none := val_none fun y hy e => by
        rw [List.map_append, List.nodup_append] at hn
        exact hn.2.2 y.1 (List.mem_map_of_mem hy) x.1 (by simp) e
      rw [hv]
      simp [(h x (by simp)).2]
    rw [firstE, if_pos h1]
    exact first_of r (a ++ [x]) (fun y hy => h y (by simp [hy])) (by simpa using hn)
theorem flat_len : ∀ (l : List (Int × List UInt8)), (∀ x ∈ l, (0 ≤ x.1 ∧ x.1 < 10000) ∧ x.2.length ≤ 20) → (l.flatMap fieldB).length ≤ 26 * l.length
  | [], _ => by simp
  | x :: l, h => by
    have h1 := flat_len l fun y hy => h y (by simp [hy])
    obtain ⟨⟨h2, h3⟩, h4⟩ := h x (by simp)
    have h5 := dec_four' x.1.toNat (by omega)
    have h6 : (fieldB x).length ≤ 26 := by
      unfold fieldB
      simp only [List.length_append, List.length_cons, List.length_nil]
      omega
    rw [List.flatMap_cons, List.length_append, List.length_cons]
    omega
def Kd (k : Int) : Prop := (1 ≤ k ∧ k ≤ 4) ∨ (65 ≤ k ∧ k ≤ 69)
theorem kd_cases {k : Int} (h : Kd k) : k = 1 ∨ k = 2 ∨ k = 3 ∨ k = 4 ∨ k = 65 ∨ k = 66 ∨ k = 67 ∨ k = 68 ∨ k = 69 := by
  unfold Kd at h
  omega
theorem lt_tags {k : Int} (h : Kd k) (F : Int → Int) : ((ltL k F (tagsL k)).map (·.1)).Nodup ∧ (ltL k F (tagsL k)).length ≤ 9 ∧ ∀ x ∈ (ltL k F (tagsL k)).map (·.1), TagOk x := by
  rcases kd_cases h with rfl | rfl | rfl | rfl | rfl | rfl | rfl | rfl | rfl
  all_goals simp [ltL, tagsL, tagT]
  all_goals decide
theorem lt_vals {k : Int} (h : Kd k) (F : Int → Int) (hF : ∀ t, Wd (F t)) : ∀ x ∈ ltL k F (tagsL k), ValOk x.2 ∧ x.2.length ≤ 20 := by
  intro x hx
  unfold ltL at hx
  obtain ⟨t, ht, hx⟩ := List.mem_flatMap.1 hx
  have h1 := hF t
  unfold Wd at h1
  have hk : 0 ≤ k ∧ k ≤ 69 := by unfold Kd at h; omega
  unfold tagT at hx
  rcases List.mem_cons.1 hx with rfl | hx
  · exact ⟨val_dig _, (dec_len _ (by simp; omega)).2⟩
  · split at hx
    · rw [List.mem_singleton] at hx
      subst hx
      exact ⟨val_dig _, (dec_len _ (by simp; omega)).2⟩
    · cases hx
theorem kindOk_line (k : Int) : KindOk (lineK k) := by
  unfold lineK
  repeat' split
  all_goals decide
theorem lineK_len (k : Int) : (lineK k).length ≤ 2 := (kindOk_line k).1.elim (fun h => by omega) (fun h => by omega)
theorem enc_line {k : Int} (h : Kd k) (F : Int → Int) (hF : ∀ t, Wd (F t)) : encE (lineK k) (ltL k F (tagsL k)) = 0 := by
  obtain ⟨h1, h2, h3⟩ := lt_tags h F
  have h4 := lt_vals h F hF
  unfold encE
  rw [if_neg (not_not_intro (kindOk_line k)), if_neg (by omega), first_of _ [] (fun x hx => ⟨h3 x.1 (List.mem_map_of_mem hx), (h4 x hx).1⟩) (by simpa using h1), if_pos rfl, if_neg]
  have h5 := flat_len (ltL k F (tagsL k)) fun x hx => ⟨by have := h3 x.1 (List.mem_map_of_mem hx); unfold TagOk at this; omega, (h4 x hx).2⟩
  have h6 := dec_four' 35 (by decide)
  have h7 := lineK_len k
  rw [lineB_len]
  have h8 : (bodyB (lineK k) (ltL k F (tagsL k))).length ≤ 500 := by
    unfold bodyB
    rw [List.length_append]
    have : (fieldB (35, lineK k)).length ≤ 8 := by
      unfold fieldB
      simp only [List.length_append, List.length_cons, List.length_nil]
      have : (decDigits (Int.toNat 35)).length ≤ 4 := h6
      omega
    omega
  have h9 := (dec_four' (bodyB (lineK k) (ltL k F (tagsL k))).length (by omega))
  rw [decDigits_length] at h9
  omega
theorem val_of {t : Int} {v : List UInt8} : ∀ (l : List (Int × List UInt8)), (l.map (·.1)).Nodup → (t, v) ∈ l → val? l t = some v
  | [], _, h => by cases h
  | x :: l, hn, h => by
    rw [List.map_cons, List.nodup_cons] at hn
    unfold val?
    rcases List.mem_cons.1 h with rfl | h
    · simp
    · have hx : (x.1 == t) = false := by
        rw [beq_eq_false_iff_ne]
        rintro rfl
        exact hn.1 (List.mem_map_of_mem (f := (·.1)) h)
      rw [List.find?_cons, hx]
      exact val_of l hn.2 h
/-- a number that stands in a line. -/
theorem num_line {k : Int} (h : Kd k) (F : Int → Int) (hF : ∀ t, Wd (F t)) (t : Int) (ht : t ∈ tagsL k) : numOf (ltL k F (tagsL k)) t = ((F t).toNat, 0) := by
  have hv : val? (ltL k F (tagsL k)) t = some (decDigits (F t).toNat) := val_of _ (lt_tags h F).1 (by
    unfold ltL
    exact List.mem_flatMap.2 ⟨t, ht, by unfold tagT; simp⟩)
  have h1 := hF t
  unfold Wd at h1
  unfold numOf
  rw [hv]
  simp only
  rw [num_dec _ (by omega)]
  rfl
/-- the fields of a line, as numbers. -/
def nmF (l : List (Int × List UInt8)) : Int → Int := fun t => ((numOf l t).1 : Int)
theorem nmF_wd (l : List (Int × List UInt8)) (t : Int) : Wd (nmF l t) := by
  unfold nmF numOf Wd
  split
  · simp
  · rename_i v hv
    cases hn : num v with
    | none => simp [numEnd]
    | some n =>
      have := (num_some v n hn).2
      simp only [numEnd]
      omega
theorem nm_line {k : Int} (h : Kd k) (F : Int → Int) (hF : ∀ t, Wd (F t)) : only (tagsL k) (nmF (ltL k F (tagsL k))) = only (tagsL k) F := by
  funext t
  unfold only
  by_cases ht : t ∈ tagsL k
  · rw [if_pos ht, if_pos ht]
    unfold nmF
    rw [num_line h F hF t ht]
    have := hF t
    unfold Wd at this
    simp only
    omega
  · rw [if_neg ht, if_neg ht]
/-- the kind of an input's line. -/
def inK (kind : List UInt8) : Option Int := if kind = [68] then some 1 else if kind = [70] then some 2 else if kind = [71] then some 3 else if kind = [85, 69] then some 4 else none
theorem inK_line {k : Int} (h1 : 1 ≤ k) (h4 : k ≤ 4) : inK (lineK k) = some k := by
  obtain rfl | rfl | rfl | rfl : k = 1 ∨ k = 2 ∨ k = 3 ∨ k = 4 := by omega
  all_goals rfl
theorem inK_rg {kind : List UInt8} {k : Int} (h : inK kind = some k) : 1 ≤ k ∧ k ≤ 4 ∧ kind = lineK k ∧ kind ≠ [56] := by
  unfold inK at h
  repeat' split at h
  all_goals first | (simp only [Option.some.injEq] at h; subst h; refine ⟨by decide, by decide, ?_, ?_⟩ <;> simp_all [lineK]) | cases h
/-- the kind of an event's line. -/
def evK (kind : List UInt8) (l : List (Int × List UInt8)) : Option Int :=
  if kind = [56] ∧ 2 ≤ l.length then (if (numOf ((l.drop 1).take 1) 150).2 = 0 ∧ 1 ≤ (numOf ((l.drop 1).take 1) 150).1 ∧ (numOf ((l.drop 1).take 1) 150).1 ≤ 5 then some (64 + ((numOf ((l.drop 1).take 1) 150).1 : Int)) else none) else none
theorem evK_rg {kind : List UInt8} {l : List (Int × List UInt8)} {k : Int} (h : evK kind l = some k) : 65 ≤ k ∧ k ≤ 69 ∧ kind = [56] := by
  unfold evK at h
  split at h
  · split at h
    · rename_i h1 h2
      simp only [Option.some.injEq] at h
      exact ⟨by omega, by omega, h1.1⟩
    · cases h
  · cases h
theorem evK_line {k : Int} (h1 : 65 ≤ k) (h4 : k ≤ 69) (F : Int → Int) : evK (lineK k) (ltL k F (tagsL k)) = some k := by
  have hk : lineK k = [56] := by unfold lineK; rw [if_neg (by omega), if_neg (by omega), if_neg (by omega), if_neg (by omega)]
  have hn : num (decDigits (k - 64).toNat) = some (k - 64).toNat := num_dec _ (by omega)
  have hd : ((ltL k F (tagsL k)).drop 1).take 1 = [(150, decDigits (k - 64).toNat)] ∧ 2 ≤ (ltL k F (tagsL k)).length := by
    obtain rfl | rfl | rfl | rfl | rfl : k = 65 ∨ k = 66 ∨ k = 67 ∨ k = 68 ∨ k = 69 := by omega
    all_goals simp [ltL, tagsL, tagT]
  have hm : numOf [(150, decDigits (k - 64).toNat)] 150 = ((k - 64).toNat, 0) := by
    unfold numOf val?
    simp only [List.find?_cons, beq_self_eq_true, Option.map_some]
    rw [hn]
    rfl
  unfold evK
  rw [hd.1, hm, if_pos ⟨hk, hd.2⟩, if_pos ⟨rfl, by simp; omega, by simp; omega⟩]
  congr 1
  simp
  omega
theorem F_wd (x : Inp) (hx : x.Ok) (t : Int) : Wd (x.F t) := by
  obtain ⟨h1, h2, h3, h4, h5⟩ := hx
  unfold Inp.F only
  split
  · unfold Inp.f inF upd Wd at *
    repeat' split
    all_goals first | omega | (simp only [u64]; omega)
  · simp [Wd]
end Go.Proofs.YtacdjioieclggaaDoor.Msg
namespace Go.Proofs.YtacdjioieclggaaDoor.Msg
open Go.RowKit Go.Maps Go.Deep Go.Lib
set_option linter.unusedVariables false
set_option linter.unusedSimpArgs false
theorem four (w : World) (o1 o2 o3 o4 : Obj) {w2 : World} (hb : Below ((((w.alloc o1).alloc o2).alloc o3).alloc o4).heap.size ((((w.alloc o1).alloc o2).alloc o3).alloc o4) w2) :
    w2.heap[w.heap.size]? = some o1 ∧ w2.heap[w.heap.size + 1]? = some o2 ∧ w2.heap[w.heap.size + 1 + 1]? = some o3 ∧ w2.heap[w.heap.size + 1 + 1 + 1]? = some o4 ∧ Below w.heap.size w w2 := by
  obtain ⟨a, b, c, d⟩ := three w o1 o2 o3 (ball _ o4)
  have h4 : ((((w.alloc o1).alloc o2).alloc o3).alloc o4).heap[w.heap.size + 1 + 1 + 1]? = some o4 := by
    have := heap_alloc_new (((w.alloc o1).alloc o2).alloc o3) o4
    rw [alloc_size, alloc_size, alloc_size] at this
    exact this
  exact ⟨row_on a hb, row_on b hb, row_on c hb, row_on h4 hb, btr d hb⟩
def anW (a b : Int) : Int := bits .and .u64 a b
/-- what stands at a tag's place. -/
def rdG (k : Int) (l : List Int) (t : Int) : Int := anW (l.getD (plW k t).toNat 0 / 2 ^ (plB t).toNat) (bnd t)
theorem anW_wd (a b : Int) : Wd (anW a b) := by
  unfold anW bits
  simp only
  show Wd (_ % 18446744073709551616)
  unfold Wd
  omega
theorem rdG_wd (k : Int) (l : List Int) (t : Int) : Wd (rdG k l t) := anW_wd _ _
structure RdR (w : World) (k : Int) (l : List Int) (q : Option Addr) (L : List Int) (j : Nat) (wr : World) : Prop where
  r0 : wr.heap[w.heap.size]? = some (.cells (frV k l) 40 (0, 0))
  r1 : wr.heap[w.heap.size + 1]? = some (.cells #[.int .u8 0, .map none] 61 (0, 0))
  m : Fm wr (w.heap.size + 1 + 1) j (only (L.take j) (rdG k l))
  r3 : wr.heap[w.heap.size + 1 + 1 + 1]? = some (.cells #[.int .u8 k, .map (some (w.heap.size + 1 + 1))] 61 (0, 0))
  s : Sn wr q L
  bel : Below w.heap.size w wr
theorem RdR.step {w wr w3 : World} {k : Int} {l : List Int} {q : Option Addr} {L : List Int} {j : Nat} (h : RdR w k l q L j wr) (hg : wr.drew.grownBy w3 (some (w.heap.size + 1 + 1))) (hF : Fm w3 (w.heap.size + 1 + 1) (j + 1) (only (L.take (j + 1)) (rdG k l))) : RdR w k l q L (j + 1) w3 :=
  ⟨row_grown (w := wr.drew) h.r0 hg (by omega), row_grown (w := wr.drew) h.r1 hg (by omega), hF, row_grown (w := wr.drew) h.r3 hg (by omega), Sn.grown (w := wr.drew) h.s h.m hg, h.bel.drew.grown hg h.bel.size (fun i hi => by cases hi; omega)⟩
set_option maxHeartbeats 2000000 in
set_option maxRecDepth 100000 in
theorem readFrame_any (k a0 a1 a2 a3 a4 a5 a6 : Int) (ha : ∀ x ∈ [a0, a1, a2, a3, a4, a5, a6], Wd x) (w : World) :
    Calls Tryd.prog 37 #[.agg (frV k [a0, a1, a2, a3, a4, a5, a6])] w fun e w' => ∃ b n, e = .returned (.agg #[.int .u8 k, .map (some b)]) ∧ n ≤ 8 ∧ w.heap.size ≤ b ∧ Fm w' b n (only (tagsL k) (rdG k [a0, a1, a2, a3, a4, a5, a6])) ∧ Below w.heap.size w w' := by
  have hmm := @run_makeMap Tryd.prog
  have TA := hid (fun w => tags_any k w)
  have hlen := tags_len k
  have HIN := hid (tags_in k)
  have HPL := hid (place_in k)
  have PL := hid (fun t w => place_any k t w)
  have HA := hid ha
  clear ha
  have hfv : frV k [a0, a1, a2, a3, a4, a5, a6] = #[.int .u8 k, .int .u64 a0, .int .u64 a1, .int .u64 a2, .int .u64 a3, .int .u64 a4, .int .u64 a5, .int .u64 a6] := rfl
  rw [hfv]
  clear hfv
  go_enter Tryd.func37, Tryd.ntmps37
  go_wp2_with (first | (go_at_call 50; refine (TA.out _).mono ?_; rintro e w2 ⟨q, cap, rfl, hS, hb⟩; have HS := hid hS; have HB2 := hid hb; clear hS hb; refine Hid.out ?_))
  refine hid ?_
  obtain ⟨r0, r1, r2, r3, hB⟩ := four _ _ _ _ _ HB2.out
  obtain ⟨l, hl⟩ : ∃ l, [a0, a1, a2, a3, a4, a5, a6] = l := ⟨_, rfl⟩
  have hll : l.length = 7 := by rw [← hl]; rfl
  have M0 : Fm w2 (w.heap.size + 1 + 1) 0 (only ((tagsL k).take 0) (rdG k l)) := by
    rw [List.take_zero, only_nil]
    exact ⟨.map [], ⟨#[], 0, r2, ⟨by simp, MapKept.stamped_empty 0, by simp⟩, Nat.le_refl _, rfl⟩, fun t => rfl⟩
  have PK := hid (show RdR w k l q (tagsL k) 0 w2 from ⟨by rw [← hl]; exact r0, r1, M0, r3, HS.out, hB⟩)
  rw [hl] at HA
  have HLL := hid hl
  clear r0 r1 r2 r3 M0 HS HB2 TA hB hl
  obtain ⟨L, hL⟩ : ∃ l, tagsL k = l := ⟨_, rfl⟩
  rw [hL] at PK HIN HPL hlen
  have HTL := hid hL
  rw [hL]
  clear hL
  go_wp2
  go_loopw [16] (fun iv wr => ∃ j : Nat, j ≤ L.length ∧ iv = .int .i64 j ∧ RdR w k l q L j wr) (fun iv _ => L.length - (RowKit.intOf iv).toNat)
  case atStart => exact ⟨0, Nat.zero_le _, rfl, PK.out⟩
  case round =>
    obtain ⟨j, hj, rfl, hpk⟩ := hrel
    have PJ := hid hpk
    clear hpk PK
    by_cases hjl : j < L.length
    · have hjl' : (j : Int) < (L.length : Int) := by omega
      have hj0 : (0 : Int) ≤ (j : Int) := by omega
      obtain ⟨qb, qo, rfl, hcell⟩ := PJ.out.s j hjl
      have HON := hid (only_step L (rdG k l) j hjl)
      have hti := HIN.out L[j] (List.getElem_mem hjl)
      obtain ⟨p1, p2, p3, p4⟩ := HPL.out L[j] (List.getElem_mem hjl)
      obtain ⟨t, ht⟩ : ∃ t, L[j] = t := ⟨_, rfl⟩
      rw [ht] at hcell HON hti p1 p2 p3 p4
      clear ht
      have hwt := wf_tag hti
      have P := hid (fun w => PL.out t w)
      obtain ⟨W, hW⟩ : ∃ x : Nat, plW k t = (x : Int) := ⟨(plW k t).toNat, by omega⟩
      obtain ⟨S, hS⟩ : ∃ x : Nat, plB t = (x : Int) := ⟨(plB t).toNat, by omega⟩
      have HG := hid (show rdG k l t = anW (l.getD W 0 / 2 ^ S) (bnd t) by unfold rdG; rw [hW, hS]; rfl)
      rw [hW, hS] at P
      rw [hW] at p2
      rw [hS] at p4
      have hk0 : wr.cell? ⟨w.heap.size, 0, none⟩ = some (.int .u8 k) := row_cell PJ.out.r0 0
      have hk1 : wr.cell? ⟨w.heap.size + 1 + 1 + 1, 1, none⟩ = some (.map (some (w.heap.size + 1 + 1))) := row_cell PJ.out.r3 1
      have hx : W < l.length := by omega
      have hword : wr.cell? ⟨w.heap.size, 1 + W, none⟩ = some (.int .u64 (l.getD W 0)) := by
        rw [row_cell PJ.out.r0 (1 + W)]
        simp [frV, uv, Nat.add_comm 1 W, hx]
      have hxw : Wd (l.getD W 0) := by
        have h1 : l.getD W 0 = l[W] := by simp [hx]
        rw [h1]
        exact HA.out _ (List.getElem_mem hx)
      obtain ⟨x, hx2⟩ : ∃ x, l.getD W 0 = x := ⟨_, rfl⟩
      rw [hx2] at hword HG hxw
      obtain ⟨x0, x1⟩ := hxw
      have hcw : Wd (rdG k l t) := rdG_wd k l t
      obtain ⟨w3, hput, hF3, hg3⟩ := (show Fm wr.drew (w.heap.size + 1 + 1) j (only (L.take j) (rdG k l)) from PJ.out.m).put (by omega) t (rdG k l t) hwt hcw
      rw [HG.out] at hput
      have PN := hid (show RdR w k l (some ⟨qb, qo, none⟩) L (j + 1) w3 from PJ.out.step hg3 (HON.out ▸ hF3))
      unfold anW at hput
      have i0 : (0 : Int) ≤ (W : Int) := by omega
      have i1 : (W : Int) < 7 := by omega
      have s0 : (0 : Int) ≤ (S : Int) := by omega
      have s1 : (S : Int) < 64 := by omega
      have BD := hid (fun w => bound_any t w)
      clear p1 p2 p3 p4 hW hS hti hx hF3 hg3 hcw
      go_wp2_with (first | (go_at_call 69; refine (P.out _).mono ?_; rintro e wq ⟨rfl, rfl⟩; refine Hid.out ?_))
      refine hid ?_
      go_wp2
      go_region_with (first | (go_at_call 70; refine (BD.out _).mono ?_; rintro e w' ⟨rfl, rfl⟩))
      all_goals
        go_wp2
        go_roundw
        case rel => exact ⟨j + 1, by omega, by go_num, PN.out⟩
        case measure => simp [RowKit.intOf]; omega
    · have hje : j = L.length := by omega
      subst hje
      have hp := PJ.out
      have hm := hp.m
      rw [List.take_length (l := L)] at hm
      have HM := hid hm
      have HZ := hp.r1
      have HZ2 := hp.r3
      have HBE := hid hp.bel
      clear hm hp PJ
      go_wp2_with (first
        | (refine wpList_load_row (by rfl) 61 (.tmp 3) (by rfl) (w.heap.size + 1 + 1 + 1) (by rfl) 61 #[.int .u8 k, .map (some (w.heap.size + 1 + 1))] (0, 0) _ HZ2 Tryd.underlying61 rfl info46 ?_)
        | (refine wpList_st (by rfl) 61 (.tmp 2) (.tmp 40) (by rfl) (w.heap.size + 1) #[.int .u8 k, .map (some (w.heap.size + 1 + 1))] (by rfl) (by rfl) 61 #[.int .u8 0, .map none] HZ info46 rfl (by simp [Value.oneCell']) ?_; intro w3 hst; have HST := hid hst; clear hst; refine Hid.out ?_))
      refine hid ?_
      go_wp2
      refine bodyPost_ret (results_cell_row (fn := Tryd.f37) Tryd.results37 _ _ (w.heap.size + 1) 61 #[.int .u8 k, .map (some (w.heap.size + 1 + 1))] (0, 0) _ (by rfl) HST.out.row Tryd.underlying61 rfl info46) rfl ⟨_, _, rfl, hlen, by omega, ?_, HST.out.bel _ _ HBE.out (by omega)⟩
      rw [HTL.out, HLL.out]
      exact HST.out.fm (by omega) HM.out
end Go.Proofs.YtacdjioieclggaaDoor.Msg
namespace Go.Proofs.YtacdjioieclggaaDoor.Msg
open Go.RowKit Go.Maps Go.Deep Go.Lib
set_option linter.unusedVariables false
set_option linter.unusedSimpArgs false
/-- a tag of an input's fields. -/
def InTag (t : Int) : Prop := t = 11 ∨ t = 41 ∨ t = 1 ∨ t = 38 ∨ t = 210 ∨ t = 54 ∨ t = 40 ∨ t = 44 ∨ t = 9001
theorem in_tag {k t : Int} (h1 : 1 ≤ k) (h4 : k ≤ 4) (h : t ∈ tagsL k) : InTag t := by
  obtain rfl | rfl | rfl | rfl : k = 1 ∨ k = 2 ∨ k = 3 ∨ k = 4 := by omega
  all_goals simp [tagsL] at h
  all_goals unfold InTag
  all_goals omega
def Inp.set (x : Inp) (t n : Int) : Inp :=
  if t = 11 then { x with id := n } else
  if t = 41 then { x with tg := n } else
  if t = 1 then { x with me := u32 n } else
  if t = 38 then { x with qt := n } else
  if t = 210 then { x with pe := n } else
  if t = 54 then { x with si := s64 n } else
  if t = 40 then { x with ty := s64 n } else
  if t = 44 then { x with pr := s64 n } else
  if t = 9001 then { x with en := s64 n } else x

def Inp.okV (x : Inp) (t : Int) : Bool := if t = 54 then decide (0 ≤ x.si) else if t = 40 then decide (0 ≤ x.ty) else if t = 44 then decide (0 ≤ x.pr) else if t = 9001 then decide (0 ≤ x.en) else true
def bareI (k : Int) : Inp := if k = 4 then ⟨2, 0, 0, 0, 0, 0, 0, 0, 0, 0, 0⟩ else ⟨1, k, 0, 0, 0, 0, 0, 0, 0, 0, 0⟩
end Go.Proofs.YtacdjioieclggaaDoor.Msg
namespace Go.Proofs.YtacdjioieclggaaDoor.Msg
open Go.RowKit Go.Maps Go.Deep Go.Lib
set_option linter.unusedVariables false
set_option linter.unusedSimpArgs false
def most (t : Int) : Int := if bnd t = 18446744073709551615 then 0 else bnd t
/-- fields in a row of memory. -/
def Sf (w : World) (q : Option Addr) (k : Int) (l : List Int) : Prop := ∀ i (h : i < l.length), ∃ b o, q = some ⟨b, o, none⟩ ∧ w.cell? ⟨b, o + i * 4, none⟩ = some (.int .i64 l[i]) ∧ w.cell? ⟨b, o + i * 4 + 1, none⟩ = some (.int .u64 (most l[i])) ∧ w.cell? ⟨b, o + i * 4 + 2, none⟩ = some (.int .i64 (plW k l[i])) ∧ w.cell? ⟨b, o + i * 4 + 3, none⟩ = some (.int .i64 (plB l[i]))
theorem Sf.on {w w' : World} {q : Option Addr} {k : Int} {l : List Int} (h : Sf w q k l) (hb : Below w.heap.size w w') : Sf w' q k l := fun i hi => by
  obtain ⟨b, o, e, h0, h1, h2, h3⟩ := h i hi
  exact ⟨b, o, e, (hb.cell (cell_lt h0)).trans h0, (hb.cell (cell_lt h1)).trans h1, (hb.cell (cell_lt h2)).trans h2, (hb.cell (cell_lt h3)).trans h3⟩
/-- words in a row of memory. -/
def Su (w : World) (q : Option Addr) (l : List Int) : Prop := ∀ i (h : i < l.length), ∃ b o, q = some ⟨b, o, none⟩ ∧ w.cell? ⟨b, o + i, none⟩ = some (.int .u64 l[i])
theorem Su.on {w w' : World} {q : Option Addr} {l : List Int} (h : Su w q l) (hb : Below w.heap.size w w') : Su w' q l := fun i hi => by
  obtain ⟨b, o, e, hc⟩ := h i hi
  exact ⟨b, o, e, (hb.cell (cell_lt hc)).trans hc⟩
def lstep (k : Int) (f : Int → Int) (l : List Int) (t : Int) : List Int := l.set (plW k t).toNat (u64 (l.getD (plW k t).toNat 0 + shW (f t) (plB t)))
def laW (k : Int) (f : Int → Int) (L : List Int) : List Int := L.foldl (lstep k f) zeros
structure LaR (w : World) (k : Int) (q p : Option Addr) (L V : List Int) (l : List Int) (wr : World) : Prop where
  r1 : wr.heap[w.heap.size]? = some (.cells z30 40 (0, 0))
  r2 : wr.heap[w.heap.size + 1]? = some (.cells (frV k l) 40 (0, 0))
  s : Sf wr q k L
  u : Su wr p V
  bel : Below w.heap.size w wr
theorem LaR.step {w wr : World} {k : Int} {q p : Option Addr} {L V l : List Int} (h : LaR w k q p L V l wr) (W : Nat) (y : Int) (hq : ∀ b o, q = some ⟨b, o, none⟩ → b < w.heap.size) (hp : ∀ b o, p = some ⟨b, o, none⟩ → b < w.heap.size) :
    LaR w k q p L V (l.set W y) ((wr.setCell ⟨w.heap.size + 1, 1 + W, none⟩ (.int .u64 y)).drew) := by
  refine ⟨row_set h.r1 (by simp) _, ?_, ?_, ?_, (h.bel.setCell (by show _ ≤ _; simp) _).drew⟩
  · show (wr.setCell ⟨w.heap.size + 1, 1 + W, none⟩ (.int .u64 y)).heap[w.heap.size + 1]? = _
    rw [heap_setCell_same wr _ (1 + W) _ 40 _ h.r2]
    unfold frV uv
    rw [List.setIfInBounds_toArray, Nat.add_comm 1 W, List.set_cons_succ, List.map_set]
  · intro i hi
    obtain ⟨b, o, e, h0, h1, h2, h3⟩ := h.s i hi
    have hb := hq b o e
    have hs : ∀ j v, wr.cell? ⟨b, j, none⟩ = some v → (wr.setCell ⟨w.heap.size + 1, 1 + W, none⟩ (.int .u64 y)).drew.cell? ⟨b, j, none⟩ = some v := by
      intro j v hv
      show (wr.setCell ⟨w.heap.size + 1, 1 + W, none⟩ (.int .u64 y)).cell? ⟨b, j, none⟩ = some v
      rw [World.cell?_setCell_other _ _ _ _ (by simp only [ne_eq, Addr.mk.injEq, not_and]; omega)]
      exact hv
    exact ⟨b, o, e, hs _ _ h0, hs _ _ h1, hs _ _ h2, hs _ _ h3⟩
  · intro i hi
    obtain ⟨b, o, e, h0⟩ := h.u i hi
    have hb := hp b o e
    refine ⟨b, o, e, ?_⟩
    show (wr.setCell ⟨w.heap.size + 1, 1 + W, none⟩ (.int .u64 y)).cell? ⟨b, o + i, none⟩ = _
    rw [World.cell?_setCell_other _ _ _ _ (by simp only [ne_eq, Addr.mk.injEq, not_and]; omega)]
    exact h0
end Go.Proofs.YtacdjioieclggaaDoor.Msg
namespace Go.Proofs.YtacdjioieclggaaDoor.Msg
open Go.RowKit Go.Maps Go.Deep Go.Lib
set_option linter.unusedVariables false
set_option linter.unusedSimpArgs false
def good (x : Inp) (t : Int) : Bool := x.okV t && (decide (most t = 0) || decide (x.f t ≤ most t))
def agn (x : Inp) (k : Int) (L : List Int) : Inp := L.foldl (fun y t => y.set t (x.f t)) (bareI k)
theorem grown_of {w w' : World} (hb : Below w.heap.size w w') : w.grownBy w' none := ⟨hb.os, hb.tape, hb.output, hb.size, fun i hi _ => hb.block i hi⟩
structure VaR (w : World) (x : Inp) (k : Int) (q : Option Addr) (L : List Int) (A B j : Nat) (v : Value) (wr : World) : Prop where
  i : wr.heap[w.heap.size]? = some (.cells x.v 27 (0, 0))
  a : wr.heap[A]? = some (.cells (agn x k (L.take j)).v 27 (0, 0))
  s : Sf wr q k L
  o : wr.ownsRow B 22 1 v j (uv ((L.take j).map x.f))
  bel : Below w.heap.size w wr
  bs : B ≤ wr.heap.size
  g : (L.take j).all (good x) = true
theorem VaR.below {w wr w' : World} {x : Inp} {k : Int} {q : Option Addr} {L : List Int} {A B j : Nat} {v : Value} (h : VaR w x k q L A B j v wr) (hb : Below wr.heap.size wr w') : VaR w x k q L A B j v w' :=
  ⟨row_on h.i hb, row_on h.a hb, h.s.on hb, h.o.kept (grown_of hb) (by cases v.ownBlock <;> simp), btr h.bel hb, Nat.le_trans h.bs hb.size, h.g⟩
theorem VaR.drew {w wr : World} {x : Inp} {k : Int} {q : Option Addr} {L : List Int} {A B j : Nat} {v : Value} (h : VaR w x k q L A B j v wr) : VaR w x k q L A B j v wr.drew := h.below ⟨rfl, rfl, rfl, Nat.le_refl _, fun _ _ => rfl⟩
theorem addr_inj {b o b' o' : Nat} (h : some (⟨b, o, none⟩ : Addr) = some ⟨b', o', none⟩) : b = b' ∧ o = o' := by simpa using h
theorem St.grown {w w' : World} {g : Nat} {t : TypeId} {cs : Array Value} (h : St w g t cs w') : w.grownBy w' (some g) := by
  have hb := h.bel g w (Below.refl _ _) (Nat.le_refl _)
  exact ⟨hb.os, hb.tape, hb.output, by rw [h.siz]; exact Nat.le_refl _, fun i _ hi => h.oth i (fun e => hi (by rw [e]))⟩
end Go.Proofs.YtacdjioieclggaaDoor.Msg
namespace Go.Proofs.YtacdjioieclggaaDoor.Msg
open Go.RowKit Go.Maps Go.Deep Go.Lib
set_option linter.unusedVariables false
set_option linter.unusedSimpArgs false
theorem wrap_u (x : Int) : IntKind.u64.wrap x = x % 18446744073709551616 := rfl
theorem orW_zero {a : Int} (h : Wd a) : orW 0 a = a := by
  obtain ⟨n, rfl⟩ : ∃ n : Nat, a = (n : Int) := ⟨a.toNat, by have := h.1; omega⟩
  have h2 := h.2
  unfold orW
  have e := u64_or_nat 0 n (by omega) (by omega)
  simpa using e
theorem orW_add {a b : Int} (s : Nat) (ha0 : 0 ≤ a) (ha : a < 2 ^ s) (hb0 : 0 ≤ b) (hs : b * 2 ^ s + a < 18446744073709551616) : orW a (b * 2 ^ s) = a + b * 2 ^ s := by
  obtain ⟨n, rfl⟩ : ∃ n : Nat, a = (n : Int) := ⟨a.toNat, by omega⟩
  obtain ⟨m, rfl⟩ : ∃ m : Nat, b = (m : Int) := ⟨b.toNat, by omega⟩
  have e0 : ((m : Int) * 2 ^ s) = ((m * 2 ^ s : Nat) : Int) := by push_cast; rfl
  rw [e0] at hs ⊢
  have ha' : n < 2 ^ s := by exact_mod_cast ha
  have e1 : n ||| m * 2 ^ s = m * 2 ^ s + n := by
    rw [Nat.or_comm, Nat.mul_comm m, ← Nat.two_pow_add_eq_or_of_lt ha' m]
  obtain ⟨M, hM⟩ : ∃ M, m * 2 ^ s = M := ⟨_, rfl⟩
  rw [hM] at hs e1 ⊢
  unfold orW
  rw [u64_or_nat n M (by omega) (by omega), e1]
  omega
theorem shW_wd (a b : Int) : Wd (shW a b) := by
  unfold shW
  rw [wrap_u]
  unfold Wd
  omega
theorem u64_id {a : Int} (h : Wd a) : u64 a = a := by
  obtain ⟨h1, h2⟩ := h
  unfold u64
  omega
theorem or_one (a b : Int) : orW 0 (shW a b) = u64 (0 + shW a b) := by
  rw [orW_zero (shW_wd a b), Int.zero_add, u64_id (shW_wd a b)]
theorem shW_small {a : Int} (s : Nat) (h0 : 0 ≤ a) (h : a * 2 ^ s < 18446744073709551616) : shW a s = a * 2 ^ s := by
  unfold shW
  rw [wrap_u]
  have e : ((s : Int)).toNat = s := by omega
  rw [e]
  have h2 : 0 ≤ a * 2 ^ s := Int.mul_nonneg h0 (by exact_mod_cast Nat.zero_le _)
  exact Int.emod_eq_of_lt h2 h
theorem or_three {m s y : Int} (m0 : 0 ≤ m) (m1 : m ≤ 4294967295) (s0 : 0 ≤ s) (s1 : s ≤ 255) (y0 : 0 ≤ y) (y1 : y ≤ 255) :
    orW (orW (orW 0 (shW m 0)) (shW s 32)) (shW y 40) = u64 (u64 (u64 (0 + shW m 0) + shW s 32) + shW y 40) := by
  have e0 : shW m 0 = m := by
    have := shW_small (a := m) 0 m0 (by simp; omega)
    simpa using this
  have e1 : shW s 32 = s * 4294967296 := shW_small (a := s) 32 s0 (by simp; omega)
  have e2 : shW y 40 = y * 1099511627776 := shW_small (a := y) 40 y0 (by simp; omega)
  rw [e0, e1, e2, orW_zero ⟨m0, by omega⟩]
  have o1 : orW m (s * 4294967296) = m + s * 4294967296 := orW_add (a := m) (b := s) 32 m0 (by simp; omega) s0 (by simp; omega)
  have o2 : orW (m + s * 4294967296) (y * 1099511627776) = m + s * 4294967296 + y * 1099511627776 := orW_add (a := m + s * 4294967296) (b := y) 40 (by omega) (by simp; omega) y0 (by simp; omega)
  rw [o1, o2]
  unfold u64
  omega
/-- the kinds of frames. -/
def Knd (k : Int) : Prop := k = 1 ∨ k = 2 ∨ k = 3 ∨ k = 4 ∨ k = 65 ∨ k = 66 ∨ k = 67 ∨ k = 68 ∨ k = 69
set_option maxHeartbeats 1000000 in
theorem fr_la (k : Int) (hk : Knd k) (f : Int → Int) (hb : ∀ t ∈ tagsL k, 0 ≤ f t ∧ f t ≤ bnd t) : frW k (only (tagsL k) f) (tagsL k) = laW k f (tagsL k) := by
  rcases hk with rfl | rfl | rfl | rfl | rfl | rfl | rfl | rfl | rfl
  · obtain ⟨m0, m1⟩ := hb 1 (by simp [tagsL])
    obtain ⟨s0, s1⟩ := hb 54 (by simp [tagsL])
    obtain ⟨y0, y1⟩ := hb 40 (by simp [tagsL])
    simp only [bnd] at m1 s1 y1
    have h3 := or_three m0 (by simpa using m1) s0 (by simpa using s1) y0 (by simpa using y1)
    rw [or_one, Int.zero_add] at h3
    simp [tagsL, frW, laW, fstep, lstep, plW, plU, plB, zeros, only, or_one, h3]
  · simp [tagsL, frW, laW, fstep, lstep, plW, plU, plB, zeros, only, or_one]
  · simp [tagsL, frW, laW, fstep, lstep, plW, plU, plB, zeros, only, or_one]
  · simp [tagsL, frW, laW, fstep, lstep, plW, plU, plB, zeros, only, or_one]
  · obtain ⟨m0, m1⟩ := hb 1 (by simp [tagsL])
    obtain ⟨s0, s1⟩ := hb 54 (by simp [tagsL])
    obtain ⟨y0, y1⟩ := hb 40 (by simp [tagsL])
    simp only [bnd] at m1 s1 y1
    have h3 := or_three m0 (by simpa using m1) s0 (by simpa using s1) y0 (by simpa using y1)
    rw [or_one, Int.zero_add] at h3
    simp [tagsL, frW, laW, fstep, lstep, plW, plU, plB, zeros, only, or_one, h3]
  · simp [tagsL, frW, laW, fstep, lstep, plW, plU, plB, zeros, only, or_one]
  · simp [tagsL, frW, laW, fstep, lstep, plW, plU, plB, zeros, only, or_one]
  · simp [tagsL, frW, laW, fstep, lstep, plW, plU, plB, zeros, only, or_one]
  · simp [tagsL, frW, laW, fstep, lstep, plW, plU, plB, zeros, only, or_one]
end Go.Proofs.YtacdjioieclggaaDoor.Msg
namespace Go.Proofs.YtacdjioieclggaaDoor.Msg
open Go.RowKit Go.Maps Go.Deep Go.Lib
set_option linter.unusedVariables false
set_option linter.unusedSimpArgs false
structure Inp.Rg (x : Inp) : Prop where
  si : -9223372036854775808 ≤ x.si ∧ x.si < 9223372036854775808
  ty : -9223372036854775808 ≤ x.ty ∧ x.ty < 9223372036854775808
  pr : -9223372036854775808 ≤ x.pr ∧ x.pr < 9223372036854775808
  en : -9223372036854775808 ≤ x.en ∧ x.en < 9223372036854775808
theorem list7 {l : List Int} (h : l.length = 7) : ∃ a0 a1 a2 a3 a4 a5 a6, l = [a0, a1, a2, a3, a4, a5, a6] := by
  match l, h with
  | [a0, a1, a2, a3, a4, a5, a6], _ => exact ⟨a0, a1, a2, a3, a4, a5, a6, rfl⟩
theorem k_range (x : Inp) (h : ¬ x.k = 0) : 1 ≤ x.k ∧ x.k ≤ 4 := by
  rcases k_cases x h with ⟨_, e⟩ | ⟨_, a, b, e⟩ <;> omega
theorem pack_words (x : Inp) (hx : x.Ok) (h : x.e = 0) : frW x.k x.F (tagsL x.k) = laW x.k x.f (tagsL x.k) := by
  obtain ⟨h0, ht⟩ := e_zero x h
  obtain ⟨h1, h4⟩ := k_range x h0
  unfold Inp.told at ht
  simp only [Bool.and_eq_true] at ht
  refine fr_la x.k (by unfold Knd; omega) x.f (fun t ht2 => ⟨?_, ?_⟩)
  · obtain ⟨⟨a1, a2⟩, ⟨b1, b2⟩, ⟨c1, c2⟩, ⟨d1, d2⟩, ⟨e1, e2⟩⟩ := hx
    rcases in_tag h1 h4 ht2 with rfl | rfl | rfl | rfl | rfl | rfl | rfl | rfl | rfl
    all_goals simp [Inp.f, inF, upd, u64]
    all_goals omega
  · have := List.all_eq_true.1 ht.1 t ht2
    simpa using this
end Go.Proofs.YtacdjioieclggaaDoor.Msg
namespace Go.Proofs.YtacdjioieclggaaDoor.Msg
open Go.RowKit Go.Maps Go.Deep Go.Lib
set_option linter.unusedVariables false
set_option linter.unusedSimpArgs false
theorem pw_len (x : Inp) : x.pw.length = 7 := by
  unfold Inp.pw
  split
  · exact frW_len _ _ _
  · rfl
theorem cells_F {w : World} {g : Nat} {k a0 a1 a2 a3 a4 a5 a6 : Int} (h : w.heap[g]? = some (.cells (frV k [a0, a1, a2, a3, a4, a5, a6]) 40 (0, 0))) : w.cell? ⟨g, 0, none⟩ = some (.int .u8 k) ∧ w.cell? ⟨g, 1, none⟩ = some (.int .u64 a0) ∧ w.cell? ⟨g, 2, none⟩ = some (.int .u64 a1) ∧ w.cell? ⟨g, 3, none⟩ = some (.int .u64 a2) ∧ w.cell? ⟨g, 4, none⟩ = some (.int .u64 a3) ∧ w.cell? ⟨g, 5, none⟩ = some (.int .u64 a4) ∧ w.cell? ⟨g, 6, none⟩ = some (.int .u64 a5) ∧ w.cell? ⟨g, 7, none⟩ = some (.int .u64 a6) :=
  ⟨row_cell h 0, row_cell h 1, row_cell h 2, row_cell h 3, row_cell h 4, row_cell h 5, row_cell h 6, row_cell h 7⟩
theorem eqFr_same (k a0 a1 a2 a3 a4 a5 a6 : Int) (w : World) : (Op.equalIn 10000 40 (.agg #[.int .u8 k, .int .u64 a0, .int .u64 a1, .int .u64 a2, .int .u64 a3, .int .u64 a4, .int .u64 a5, .int .u64 a6]) (.agg #[.int .u8 k, .int .u64 a0, .int .u64 a1, .int .u64 a2, .int .u64 a3, .int .u64 a4, .int .u64 a5, .int .u64 a6])).run Tryd.prog w = .ok true w := by
  have h := eqFr k k a0 a1 a2 a3 a4 a5 a6 a0 a1 a2 a3 a4 a5 a6 w
  simpa [frV, uv] using h
end Go.Proofs.YtacdjioieclggaaDoor.Msg
namespace Go.Proofs.YtacdjioieclggaaDoor.Msg
open Go.RowKit Go.Maps Go.Deep Go.Lib
set_option linter.unusedVariables false
set_option linter.unusedSimpArgs false
set_option maxRecDepth 100000
def zeroI : Inp := ⟨0, 0, 0, 0, 0, 0, 0, 0, 0, 0, 0⟩
def agnF (f : Int → Int) (k : Int) (L : List Int) : Inp := L.foldl (fun y t => y.set t (f t)) (bareI k)
theorem agnF_l (f : Int → Int) (k : Int) (h1 : 1 ≤ k) (h4 : k ≤ 4) : (agnF f k (tagsL k)).l = iL k (only (tagsL k) f) := by
  obtain rfl | rfl | rfl | rfl : k = 1 ∨ k = 2 ∨ k = 3 ∨ k = 4 := by omega
  all_goals simp [agnF, tagsL, bareI, Inp.set, iL, only, Inp.l]
  all_goals simp [u32, s64, wrap64]
/-- the input that stands in a frame. -/
def rdI (k : Int) (l : List Int) : Inp := agnF (rdG k l) k (tagsL k)
theorem inpV_rd (k : Int) (l : List Int) (h1 : 1 ≤ k) (h4 : k ≤ 4) : inpV k (only (tagsL k) (rdG k l)) = (rdI k l).v := (iL_iff k _ (rdI k l)).1 (agnF_l (rdG k l) k h1 h4).symm
theorem s64_rg (n : Int) : -9223372036854775808 ≤ s64 n ∧ s64 n < 9223372036854775808 := by unfold s64 wrap64; omega
theorem set_ok (x : Inp) (hx : x.Ok) (hr : x.Rg) (t n : Int) (hn : Wd n) : (x.set t n).Ok ∧ (x.set t n).Rg := by
  unfold Inp.set
  repeat' split
  all_goals exact ⟨⟨by first | exact hn | exact hx.id, by first | exact hn | exact hx.tg, by first | exact hx.me | (simp only [u32]; omega), by first | exact hn | exact hx.qt, by first | exact hn | exact hx.pe⟩, ⟨by first | exact s64_rg n | exact hr.si, by first | exact s64_rg n | exact hr.ty, by first | exact s64_rg n | exact hr.pr, by first | exact s64_rg n | exact hr.en⟩⟩
theorem agnF_ok (f : Int → Int) (hf : ∀ t, Wd (f t)) (k : Int) (L : List Int) : (agnF f k L).Ok ∧ (agnF f k L).Rg := by
  have hb : (bareI k).Ok ∧ (bareI k).Rg := by
    unfold bareI
    split <;> exact ⟨⟨by simp [Wd], by simp [Wd], by simp, by simp [Wd], by simp [Wd]⟩, ⟨by simp, by simp, by simp, by simp⟩⟩
  unfold agnF
  generalize bareI k = y at hb
  induction L generalizing y with
  | nil => exact hb
  | cons t L ih => exact ih _ (set_ok y hb.1 hb.2 t (f t) (hf t))
theorem rdI_ok (k : Int) (l : List Int) : (rdI k l).Ok := (agnF_ok _ (rdG_wd k l) k _).1
def upE (k : Int) (l : List Int) : Int := if 1 ≤ k ∧ k ≤ 4 then (if (rdI k l).e = 0 ∧ (rdI k l).pk = k ∧ (rdI k l).pw = l then 0 else 40) else 41
def upI (k : Int) (l : List Int) : Inp := if upE k l = 0 then rdI k l else zeroI
theorem res27 (fn : Func) (p u : Tmp) (h : fn.results = #[.cell p 27, .tmp u]) (tmps : Array Value) (w : World) (g : Nat) (cs : Array Value) (eu : Value)
    (hp : tmps.getD p undef = .pointer (some ⟨g, 0, none⟩)) (hu : tmps.getD u undef = eu) (hg : w.heap[g]? = some (.cells cs 27 (0, 0))) (hi : (Tryd.prog.info? 27).map (·.size) = some cs.size) :
    (results fn tmps).run Tryd.prog w = .ok (.tuple #[.agg cs, eu]) w := by
  have hp' : tmps[p]?.getD undef = .pointer (some ⟨g, 0, none⟩) := by simpa using hp
  have hu' : tmps[u]?.getD undef = eu := by simpa using hu
  simp [results, h, hp', hu', asAddr, run_loadVar_row w g 27 27 cs (0, 0) _ hg Tryd.underlying27 rfl hi]
theorem eqFr_no (K k b0 b1 b2 b3 b4 b5 b6 a0 a1 a2 a3 a4 a5 a6 : Int) (h : ¬ (K = k ∧ [b0, b1, b2, b3, b4, b5, b6] = [a0, a1, a2, a3, a4, a5, a6])) (w : World) : (Op.equalIn 10000 40 (.agg #[.int .u8 K, .int .u64 b0, .int .u64 b1, .int .u64 b2, .int .u64 b3, .int .u64 b4, .int .u64 b5, .int .u64 b6]) (.agg #[.int .u8 k, .int .u64 a0, .int .u64 a1, .int .u64 a2, .int .u64 a3, .int .u64 a4, .int .u64 a5, .int .u64 a6])).run Tryd.prog w = .ok false w := by
  have e := eqFr K k b0 b1 b2 b3 b4 b5 b6 a0 a1 a2 a3 a4 a5 a6 w
  have e2 : (Op.equalIn 10000 40 (.agg #[.int .u8 K, .int .u64 b0, .int .u64 b1, .int .u64 b2, .int .u64 b3, .int .u64 b4, .int .u64 b5, .int .u64 b6]) (.agg #[.int .u8 k, .int .u64 a0, .int .u64 a1, .int .u64 a2, .int .u64 a3, .int .u64 a4, .int .u64 a5, .int .u64 a6])).run Tryd.prog w = .ok ((K == k) && (((b0 == a0) && ((b1 == a1) && ((b2 == a2) && ((b3 == a3) && ((b4 == a4) && ((b5 == a5) && ((b6 == a6) && true))))))) && true)) w := by simpa [frV, uv] using e
  rw [e2]
  congr 1
  rw [Bool.eq_false_iff]
  intro e3
  apply h
  simp only [Bool.and_eq_true, beq_iff_eq] at e3
  obtain ⟨rfl, ⟨rfl, rfl, rfl, rfl, rfl, rfl, rfl, _⟩, _⟩ := e3
  exact ⟨rfl, rfl⟩
set_option maxHeartbeats 4000000 in
set_option maxRecDepth 100000 in
theorem unpack_any (k a0 a1 a2 a3 a4 a5 a6 : Int) (hk0 : 0 ≤ k) (hk : k < 256) (ha : ∀ x ∈ [a0, a1, a2, a3, a4, a5, a6], Wd x) (w : World) :
    Calls Tryd.prog 16 #[.agg (frV k [a0, a1, a2, a3, a4, a5, a6])] w fun e w' => e = .returned (.tuple #[.agg (upI k [a0, a1, a2, a3, a4, a5, a6]).v, .int .i64 (upE k [a0, a1, a2, a3, a4, a5, a6])]) ∧ Below w.heap.size w w' := by
  by_cases hin : 1 ≤ k ∧ k ≤ 4
  · obtain ⟨h1, h4⟩ := hin
    have hE : upE k [a0, a1, a2, a3, a4, a5, a6] = if (rdI k [a0, a1, a2, a3, a4, a5, a6]).e = 0 ∧ (rdI k [a0, a1, a2, a3, a4, a5, a6]).pk = k ∧ (rdI k [a0, a1, a2, a3, a4, a5, a6]).pw = [a0, a1, a2, a3, a4, a5, a6] then 0 else 40 := by unfold upE; rw [if_pos ⟨h1, h4⟩]
    have RF := hid (fun w => readFrame_any k a0 a1 a2 a3 a4 a5 a6 ha w)
    have IN := hid (fun b n w => input_any k b n (only (tagsL k) (rdG k [a0, a1, a2, a3, a4, a5, a6])) w (by omega) (by omega))
    rw [inpV_rd k [a0, a1, a2, a3, a4, a5, a6] h1 h4] at IN
    have PA := hid (fun w => pack_any (rdI k [a0, a1, a2, a3, a4, a5, a6]) (rdI_ok k [a0, a1, a2, a3, a4, a5, a6]) w)
    have IK := isInput_any k
    rw [show decide (1 ≤ k ∧ k ≤ 4) = true from by simp [h1, h4]] at IK
    obtain ⟨Y, hY⟩ : ∃ y, rdI k [a0, a1, a2, a3, a4, a5, a6] = y := ⟨_, rfl⟩
    rw [hY] at PA IN hE
    have hfa : frV k [a0, a1, a2, a3, a4, a5, a6] = #[.int .u8 k, .int .u64 a0, .int .u64 a1, .int .u64 a2, .int .u64 a3, .int .u64 a4, .int .u64 a5, .int .u64 a6] := rfl
    rw [hfa] at RF
    obtain ⟨b0, b1, b2, b3, b4, b5, b6, hl⟩ := list7 (pw_len Y)
    obtain ⟨K, hK⟩ : ∃ y, Y.pk = y := ⟨_, rfl⟩
    obtain ⟨E, hEE⟩ : ∃ y, Y.e = y := ⟨_, rfl⟩
    have hfb0 : frV K [b0, b1, b2, b3, b4, b5, b6] = #[.int .u8 K, .int .u64 b0, .int .u64 b1, .int .u64 b2, .int .u64 b3, .int .u64 b4, .int .u64 b5, .int .u64 b6] := rfl
    rw [hl, hK, hEE] at PA hE
    rw [hfb0] at PA
    clear hl hK hEE hfb0
    by_cases hok : E = 0 ∧ K = k ∧ [b0, b1, b2, b3, b4, b5, b6] = [a0, a1, a2, a3, a4, a5, a6]
    · rw [if_pos hok] at hE
      have hI : upI k [a0, a1, a2, a3, a4, a5, a6] = Y := by unfold upI; rw [if_pos hE, hY]
      rw [hI, hE]
      obtain ⟨rfl, rfl, hw⟩ := hok
      obtain ⟨rfl, rfl, rfl, rfl, rfl, rfl, rfl⟩ : b0 = a0 ∧ b1 = a1 ∧ b2 = a2 ∧ b3 = a3 ∧ b4 = a4 ∧ b5 = a5 ∧ b6 = a6 := by simpa using hw
      have q := eqFr_same K b0 b1 b2 b3 b4 b5 b6
      clear hE hI hw hY ha h1 h4
      unfold Inp.v iV at PA IN
      rw [hfa]
      clear hfa
      go_enter Tryd.func16, Tryd.ntmps16
      go_wp2_with (first | (go_at_call 36; refine (IK _).mono ?_; rintro e wq ⟨rfl, rfl⟩) | (go_at_call 37; refine (RF.out _).mono ?_; rintro e w2 ⟨b, n, rfl, _, _, hF, hb⟩; have HF2 := hid hF; have HB2 := hid hb; clear hF hb; refine Hid.out ?_))
      have HR0 := hid (row_on (show ((w.alloc (.cells (frV K [b0, b1, b2, b3, b4, b5, b6]) 40)).alloc (.cells zeroI.v 27)).heap[w.heap.size]? = some (.cells (frV K [b0, b1, b2, b3, b4, b5, b6]) 40 (0, 0)) from row_on (heap_alloc_new _ _) (ball _ _)) HB2.out)
      have HZ0 := hid (row_on (heap2 w (.cells (frV K [b0, b1, b2, b3, b4, b5, b6]) 40) (.cells zeroI.v 27)) HB2.out)
      have HW0 := hid (btr (btr (ball _ _) (ball _ _)) HB2.out)
      clear RF HB2
      refine hid ?_
      go_wp2_with (first | (go_at_call 38; refine (IN.out _ _ _ HF2.out).mono ?_; rintro e w3 ⟨rfl, hb⟩; have HB3 := hid hb; clear hb; refine Hid.out ?_))
      have HR1 := hid (show (w3.alloc (.cells Y.v 27)).heap[w.heap.size]? = some (.cells (frV K [b0, b1, b2, b3, b4, b5, b6]) 40 (0, 0)) from row_on (row_on HR0.out HB3.out) (ball _ _))
      have HZ1 := hid (show (w3.alloc (.cells Y.v 27)).heap[w.heap.size + 1]? = some (.cells zeroI.v 27 (0, 0)) from row_on (row_on HZ0.out HB3.out) (ball _ _))
      have HW1 := hid (show Below w.heap.size w (w3.alloc (.cells Y.v 27)) from btr (btr HW0.out HB3.out) (ball _ _))
      have HY1 := hid (show (w3.alloc (.cells Y.v 27)).heap[w3.heap.size]? = some (.cells Y.v 27 (0, 0)) from heap_alloc_new _ _)
      clear HR0 HZ0 HW0 HB3 IN HF2
      unfold Inp.v iV at HR1 HZ1 HW1 HY1
      refine hid ?_
      go_wp2_with (first | (go_at_call 14; refine (PA.out _).mono ?_; rintro e w4 ⟨rfl, hb⟩; have HB4 := hid hb; clear hb; refine Hid.out ?_))
      have HR2 := hid (show (w4.alloc (.cells (frV K [b0, b1, b2, b3, b4, b5, b6]) 40)).heap[w.heap.size]? = some (.cells (frV K [b0, b1, b2, b3, b4, b5, b6]) 40 (0, 0)) from row_on (row_on HR1.out HB4.out) (ball _ _))
      have HZ2 := hid (show (w4.alloc (.cells (frV K [b0, b1, b2, b3, b4, b5, b6]) 40)).heap[w.heap.size + 1]? = some (.cells zeroI.v 27 (0, 0)) from row_on (row_on HZ1.out HB4.out) (ball _ _))
      have HW2 := hid (show Below w.heap.size w (w4.alloc (.cells (frV K [b0, b1, b2, b3, b4, b5, b6]) 40)) from btr (btr HW1.out HB4.out) (ball _ _))
      have HY2 := hid (show (w4.alloc (.cells (frV K [b0, b1, b2, b3, b4, b5, b6]) 40)).heap[w3.heap.size]? = some (.cells Y.v 27 (0, 0)) from row_on (row_on HY1.out HB4.out) (ball _ _))
      have hfb : frV K [b0, b1, b2, b3, b4, b5, b6] = #[.int .u8 K, .int .u64 b0, .int .u64 b1, .int .u64 b2, .int .u64 b3, .int .u64 b4, .int .u64 b5, .int .u64 b6] := rfl
      rw [hfb] at HR2 HZ2 HW2 HY2
      clear HR1 HZ1 HW1 HY1 HB4 PA hfb
      obtain ⟨d0, d1, d2, d3, d4, d5, d6, d7⟩ := cells_F HR2.out
      refine hid ?_
      obtain ⟨g0, g1, g2, g3, g4, g5, g6, g7, g8, g9, g10⟩ := cells_I HY2.out
      go_wp2_with (first | (refine wpList_st (by rfl) 27 (.tmp 2) (.tmp 28) (by rfl) (w.heap.size + 1) Y.v (by rfl) (by rfl) 27 zeroI.v HZ2.out info27 rfl (by simp [Inp.v, iV, Value.oneCell']) ?_; intro w5 hst; have HST := hid hst; clear hst; refine Hid.out ?_))
      refine hid ?_
      go_wp2
      exact bodyPost_ret (res27 Tryd.f16 2 3 Tryd.results16 _ _ (w.heap.size + 1) Y.v _ (by rfl) (by rfl) HST.out.row info27) rfl ⟨rfl, HST.out.bel _ _ HW2.out (by omega)⟩
    · rw [if_neg hok] at hE
      have hI : upI k [a0, a1, a2, a3, a4, a5, a6] = zeroI := by unfold upI; rw [if_neg (by omega)]
      rw [hI, hE]
      clear hI hE hY ha h1 h4
      by_cases hE0 : E = 0
      · subst hE0
        have q := eqFr_no K k b0 b1 b2 b3 b4 b5 b6 a0 a1 a2 a3 a4 a5 a6 (fun h => hok ⟨rfl, h.1, h.2⟩)
        clear hok
        unfold Inp.v iV at PA IN
        rw [hfa]
        clear hfa
        go_enter Tryd.func16, Tryd.ntmps16
        go_wp2_with (first | (go_at_call 36; refine (IK _).mono ?_; rintro e wq ⟨rfl, rfl⟩) | (go_at_call 37; refine (RF.out _).mono ?_; rintro e w2 ⟨b, n, rfl, _, _, hF, hb⟩; have HF2 := hid hF; have HB2 := hid hb; clear hF hb; refine Hid.out ?_))
        have HR0 := hid (row_on (show ((w.alloc (.cells (frV k [a0, a1, a2, a3, a4, a5, a6]) 40)).alloc (.cells zeroI.v 27)).heap[w.heap.size]? = some (.cells (frV k [a0, a1, a2, a3, a4, a5, a6]) 40 (0, 0)) from row_on (heap_alloc_new _ _) (ball _ _)) HB2.out)
        have HZ0 := hid (row_on (heap2 w (.cells (frV k [a0, a1, a2, a3, a4, a5, a6]) 40) (.cells zeroI.v 27)) HB2.out)
        have HW0 := hid (btr (btr (ball _ _) (ball _ _)) HB2.out)
        clear RF HB2
        refine hid ?_
        go_wp2_with (first | (go_at_call 38; refine (IN.out _ _ _ HF2.out).mono ?_; rintro e w3 ⟨rfl, hb⟩; have HB3 := hid hb; clear hb; refine Hid.out ?_))
        have HR1 := hid (show (w3.alloc (.cells Y.v 27)).heap[w.heap.size]? = some (.cells (frV k [a0, a1, a2, a3, a4, a5, a6]) 40 (0, 0)) from row_on (row_on HR0.out HB3.out) (ball _ _))
        have HZ1 := hid (show (w3.alloc (.cells Y.v 27)).heap[w.heap.size + 1]? = some (.cells zeroI.v 27 (0, 0)) from row_on (row_on HZ0.out HB3.out) (ball _ _))
        have HW1 := hid (show Below w.heap.size w (w3.alloc (.cells Y.v 27)) from btr (btr HW0.out HB3.out) (ball _ _))
        have HY1 := hid (show (w3.alloc (.cells Y.v 27)).heap[w3.heap.size]? = some (.cells Y.v 27 (0, 0)) from heap_alloc_new _ _)
        clear HR0 HZ0 HW0 HB3 IN HF2
        unfold Inp.v iV at HR1 HZ1 HW1 HY1
        refine hid ?_
        go_wp2_with (first | (go_at_call 14; refine (PA.out _).mono ?_; rintro e w4 ⟨rfl, hb⟩; have HB4 := hid hb; clear hb; refine Hid.out ?_))
        have HR2 := hid (show (w4.alloc (.cells (frV K [b0, b1, b2, b3, b4, b5, b6]) 40)).heap[w.heap.size]? = some (.cells (frV k [a0, a1, a2, a3, a4, a5, a6]) 40 (0, 0)) from row_on (row_on HR1.out HB4.out) (ball _ _))
        have HZ2 := hid (show (w4.alloc (.cells (frV K [b0, b1, b2, b3, b4, b5, b6]) 40)).heap[w.heap.size + 1]? = some (.cells zeroI.v 27 (0, 0)) from row_on (row_on HZ1.out HB4.out) (ball _ _))
        have HW2 := hid (show Below w.heap.size w (w4.alloc (.cells (frV K [b0, b1, b2, b3, b4, b5, b6]) 40)) from btr (btr HW1.out HB4.out) (ball _ _))
        have HY2 := hid (show (w4.alloc (.cells (frV K [b0, b1, b2, b3, b4, b5, b6]) 40)).heap[w3.heap.size]? = some (.cells Y.v 27 (0, 0)) from row_on (row_on HY1.out HB4.out) (ball _ _))
        have hfb : frV K [b0, b1, b2, b3, b4, b5, b6] = #[.int .u8 K, .int .u64 b0, .int .u64 b1, .int .u64 b2, .int .u64 b3, .int .u64 b4, .int .u64 b5, .int .u64 b6] := rfl
        rw [hfb] at HR2 HZ2 HW2 HY2
        clear HR1 HZ1 HW1 HY1 HB4 PA hfb
        obtain ⟨d0, d1, d2, d3, d4, d5, d6, d7⟩ := cells_F HR2.out
        refine hid ?_
        go_wp2_with (first | (refine wpList_st (by rfl) 27 (.tmp 2) (.tmp 27) (by rfl) (w.heap.size + 1) zeroI.v (by rfl) (by rfl) 27 zeroI.v HZ2.out info27 rfl (by simp [zeroI, Inp.v, iV, Value.oneCell']) ?_; intro w5 hst; have HST := hid hst; clear hst; refine Hid.out ?_))
        refine hid ?_
        go_wp2
        exact bodyPost_ret (res27 Tryd.f16 2 3 Tryd.results16 _ _ (w.heap.size + 1) zeroI.v _ (by rfl) (by rfl) HST.out.row info27) rfl ⟨rfl, HST.out.bel _ _ HW2.out (by omega)⟩
      · have hne : (E != 0) = true := by simpa using hE0
        clear hok hE0
        unfold Inp.v iV at PA IN
        rw [hfa]
        clear hfa
        go_enter Tryd.func16, Tryd.ntmps16
        go_wp2_with (first | (go_at_call 36; refine (IK _).mono ?_; rintro e wq ⟨rfl, rfl⟩) | (go_at_call 37; refine (RF.out _).mono ?_; rintro e w2 ⟨b, n, rfl, _, _, hF, hb⟩; have HF2 := hid hF; have HB2 := hid hb; clear hF hb; refine Hid.out ?_))
        have HR0 := hid (row_on (show ((w.alloc (.cells (frV k [a0, a1, a2, a3, a4, a5, a6]) 40)).alloc (.cells zeroI.v 27)).heap[w.heap.size]? = some (.cells (frV k [a0, a1, a2, a3, a4, a5, a6]) 40 (0, 0)) from row_on (heap_alloc_new _ _) (ball _ _)) HB2.out)
        have HZ0 := hid (row_on (heap2 w (.cells (frV k [a0, a1, a2, a3, a4, a5, a6]) 40) (.cells zeroI.v 27)) HB2.out)
        have HW0 := hid (btr (btr (ball _ _) (ball _ _)) HB2.out)
        clear RF HB2
        refine hid ?_
        go_wp2_with (first | (go_at_call 38; refine (IN.out _ _ _ HF2.out).mono ?_; rintro e w3 ⟨rfl, hb⟩; have HB3 := hid hb; clear hb; refine Hid.out ?_))
        have HR1 := hid (show (w3.alloc (.cells Y.v 27)).heap[w.heap.size]? = some (.cells (frV k [a0, a1, a2, a3, a4, a5, a6]) 40 (0, 0)) from row_on (row_on HR0.out HB3.out) (ball _ _))
        have HZ1 := hid (show (w3.alloc (.cells Y.v 27)).heap[w.heap.size + 1]? = some (.cells zeroI.v 27 (0, 0)) from row_on (row_on HZ0.out HB3.out) (ball _ _))
        have HW1 := hid (show Below w.heap.size w (w3.alloc (.cells Y.v 27)) from btr (btr HW0.out HB3.out) (ball _ _))
        have HY1 := hid (show (w3.alloc (.cells Y.v 27)).heap[w3.heap.size]? = some (.cells Y.v 27 (0, 0)) from heap_alloc_new _ _)
        clear HR0 HZ0 HW0 HB3 IN HF2
        unfold Inp.v iV at HR1 HZ1 HW1 HY1
        refine hid ?_
        go_wp2_with (first | (go_at_call 14; refine (PA.out _).mono ?_; rintro e w4 ⟨rfl, hb⟩; have HB4 := hid hb; clear hb; refine Hid.out ?_))
        have HR2 := hid (show (w4.alloc (.cells (frV K [b0, b1, b2, b3, b4, b5, b6]) 40)).heap[w.heap.size]? = some (.cells (frV k [a0, a1, a2, a3, a4, a5, a6]) 40 (0, 0)) from row_on (row_on HR1.out HB4.out) (ball _ _))
        have HZ2 := hid (show (w4.alloc (.cells (frV K [b0, b1, b2, b3, b4, b5, b6]) 40)).heap[w.heap.size + 1]? = some (.cells zeroI.v 27 (0, 0)) from row_on (row_on HZ1.out HB4.out) (ball _ _))
        have HW2 := hid (show Below w.heap.size w (w4.alloc (.cells (frV K [b0, b1, b2, b3, b4, b5, b6]) 40)) from btr (btr HW1.out HB4.out) (ball _ _))
        have HY2 := hid (show (w4.alloc (.cells (frV K [b0, b1, b2, b3, b4, b5, b6]) 40)).heap[w3.heap.size]? = some (.cells Y.v 27 (0, 0)) from row_on (row_on HY1.out HB4.out) (ball _ _))
        have hfb : frV K [b0, b1, b2, b3, b4, b5, b6] = #[.int .u8 K, .int .u64 b0, .int .u64 b1, .int .u64 b2, .int .u64 b3, .int .u64 b4, .int .u64 b5, .int .u64 b6] := rfl
        rw [hfb] at HR2 HZ2 HW2 HY2
        clear HR1 HZ1 HW1 HY1 HB4 PA hfb
        obtain ⟨d0, d1, d2, d3, d4, d5, d6, d7⟩ := cells_F HR2.out
        refine hid ?_
        go_wp2_with (first | (refine wpList_st (by rfl) 27 (.tmp 2) (.tmp 27) (by rfl) (w.heap.size + 1) zeroI.v (by rfl) (by rfl) 27 zeroI.v HZ2.out info27 rfl (by simp [zeroI, Inp.v, iV, Value.oneCell']) ?_; intro w5 hst; have HST := hid hst; clear hst; refine Hid.out ?_))
        refine hid ?_
        go_wp2
        exact bodyPost_ret (res27 Tryd.f16 2 3 Tryd.results16 _ _ (w.heap.size + 1) zeroI.v _ (by rfl) (by rfl) HST.out.row info27) rfl ⟨rfl, HST.out.bel _ _ HW2.out (by omega)⟩
  · have hE : upE k [a0, a1, a2, a3, a4, a5, a6] = 41 := by unfold upE; rw [if_neg hin]
    have hI : upI k [a0, a1, a2, a3, a4, a5, a6] = zeroI := by unfold upI; rw [if_neg (by omega)]
    rw [hI, hE]
    have IK := isInput_any k
    rw [show decide (1 ≤ k ∧ k ≤ 4) = false from by simpa using hin] at IK
    have hfa : frV k [a0, a1, a2, a3, a4, a5, a6] = #[.int .u8 k, .int .u64 a0, .int .u64 a1, .int .u64 a2, .int .u64 a3, .int .u64 a4, .int .u64 a5, .int .u64 a6] := rfl
    rw [hfa]
    clear hfa hin hE hI ha
    go_enter Tryd.func16, Tryd.ntmps16
    go_wp2_with (go_at_call 36; refine (IK _).mono ?_; rintro e wq ⟨rfl, rfl⟩)
    exact bodyPost_ret (res27 Tryd.f16 2 3 Tryd.results16 _ _ (w.heap.size + 1) zeroI.v _ (by rfl) (by rfl) (heap2 _ _ _) info27) rfl ⟨rfl, btr (ball _ _) (ball _ _)⟩
end Go.Proofs.YtacdjioieclggaaDoor.Msg
namespace Go.Proofs.YtacdjioieclggaaDoor.Msg
open Go.RowKit Go.Maps Go.Deep Go.Lib
set_option linter.unusedVariables false
set_option linter.unusedSimpArgs false
/-- a tag of an event's fields. -/
def EvTag (t : Int) : Prop := t = 34 ∨ t = 11 ∨ t = 41 ∨ t = 37 ∨ t = 1 ∨ t = 38 ∨ t = 210 ∨ t = 54 ∨ t = 40 ∨ t = 44 ∨ t = 378 ∨ t = 103
theorem ev_tag {k t : Int} (h1 : 1 ≤ k) (h5 : k ≤ 5) (h : t ∈ tagsL (64 + k)) : EvTag t := by
  obtain rfl | rfl | rfl | rfl | rfl : k = 1 ∨ k = 2 ∨ k = 3 ∨ k = 4 ∨ k = 5 := by omega
  all_goals simp [tagsL] at h
  all_goals unfold EvTag
  all_goals omega
def Evt.set (x : Evt) (t n : Int) : Evt :=
  if t = 34 then { x with sq := n } else
  if t = 11 then { x with id := n } else
  if t = 41 then { x with tg := n } else
  if t = 37 then { x with ot := n } else
  if t = 1 then { x with me := u32 n } else
  if t = 38 then { x with qt := n } else
  if t = 210 then { x with pe := n } else
  if t = 54 then { x with si := s64 n } else
  if t = 40 then { x with ty := s64 n } else
  if t = 44 then { x with pr := s64 n } else
  if t = 378 then { x with re := s64 n } else
  if t = 103 then { x with co := s64 n } else x

def Evt.okV (x : Evt) (t : Int) : Bool := if t = 54 then decide (0 ≤ x.si) else if t = 40 then decide (0 ≤ x.ty) else if t = 44 then decide (0 ≤ x.pr) else if t = 378 then decide (0 ≤ x.re) else if t = 103 then decide (0 ≤ x.co) else true
end Go.Proofs.YtacdjioieclggaaDoor.Msg
namespace Go.Proofs.YtacdjioieclggaaDoor.Msg
open Go.RowKit Go.Maps Go.Deep Go.Lib
set_option linter.unusedVariables false
set_option linter.unusedSimpArgs false
def goodE (x : Evt) (t : Int) : Bool := x.okV t && (decide (most t = 0) || decide (x.f t ≤ most t))
def bareE (kd : Int) : Evt := ⟨0, kd, 0, 0, 0, 0, 0, 0, 0, 0, 0, 0, 0⟩
def agnE (x : Evt) (L : List Int) : Evt := L.foldl (fun y t => y.set t (x.f t)) (bareE x.kd)
structure VaE (w : World) (x : Evt) (k : Int) (q : Option Addr) (L : List Int) (A B j : Nat) (v : Value) (wr : World) : Prop where
  i : wr.heap[w.heap.size]? = some (.cells x.v 30 (0, 0))
  a : wr.heap[A]? = some (.cells (agnE x (L.take j)).v 30 (0, 0))
  s : Sf wr q k L
  o : wr.ownsRow B 22 1 v j (uv ((L.take j).map x.f))
  bel : Below w.heap.size w wr
  bs : B ≤ wr.heap.size
  g : (L.take j).all (goodE x) = true
theorem VaE.below {w wr w' : World} {x : Evt} {k : Int} {q : Option Addr} {L : List Int} {A B j : Nat} {v : Value} (h : VaE w x k q L A B j v wr) (hb : Below wr.heap.size wr w') : VaE w x k q L A B j v w' :=
  ⟨row_on h.i hb, row_on h.a hb, h.s.on hb, h.o.kept (grown_of hb) (by cases v.ownBlock <;> simp), btr h.bel hb, Nat.le_trans h.bs hb.size, h.g⟩
theorem VaE.drew {w wr : World} {x : Evt} {k : Int} {q : Option Addr} {L : List Int} {A B j : Nat} {v : Value} (h : VaE w x k q L A B j v wr) : VaE w x k q L A B j v wr.drew := h.below ⟨rfl, rfl, rfl, Nat.le_refl _, fun _ _ => rfl⟩
end Go.Proofs.YtacdjioieclggaaDoor.Msg
namespace Go.Proofs.YtacdjioieclggaaDoor.Msg
open Go.RowKit Go.Maps Go.Deep Go.Lib
set_option linter.unusedVariables false
set_option linter.unusedSimpArgs false
structure Evt.Rg (x : Evt) : Prop where
  si : -9223372036854775808 ≤ x.si ∧ x.si < 9223372036854775808
  ty : -9223372036854775808 ≤ x.ty ∧ x.ty < 9223372036854775808
  pr : -9223372036854775808 ≤ x.pr ∧ x.pr < 9223372036854775808
  re : -9223372036854775808 ≤ x.re ∧ x.re < 9223372036854775808
  co : -9223372036854775808 ≤ x.co ∧ x.co < 9223372036854775808
def agnG (f : Int → Int) (kd : Int) (L : List Int) : Evt := L.foldl (fun y t => y.set t (f t)) (bareE kd)
theorem agnG_l (f : Int → Int) (kd : Int) (h1 : 1 ≤ kd) (h5 : kd ≤ 5) : (agnG f kd (tagsL (64 + kd))).l = evL (64 + kd) (only (tagsL (64 + kd)) f) := by
  obtain rfl | rfl | rfl | rfl | rfl : kd = 1 ∨ kd = 2 ∨ kd = 3 ∨ kd = 4 ∨ kd = 5 := by omega
  all_goals simp [agnG, tagsL, bareE, Evt.set, evL, only, Evt.l]
  all_goals simp [u32, s64, wrap64]
theorem packE_words (x : Evt) (hx : x.Ok) (h : x.e = 0) : frW x.k x.F (tagsL x.k) = laW x.k x.f (tagsL x.k) := by
  obtain ⟨h0, ht⟩ := eE_zero x h
  obtain ⟨h1, h5, hk⟩ := kE_cases x h0
  unfold Evt.told at ht
  simp only [Bool.and_eq_true] at ht
  refine fr_la x.k (by unfold Knd; omega) x.f (fun t ht2 => ⟨?_, ?_⟩)
  · obtain ⟨⟨y1, y2⟩, ⟨a1, a2⟩, ⟨o1, o2⟩, ⟨b1, b2⟩, ⟨c1, c2⟩, ⟨d1, d2⟩, ⟨e1, e2⟩⟩ := hx
    rw [hk] at ht2
    rcases ev_tag h1 h5 ht2 with rfl | rfl | rfl | rfl | rfl | rfl | rfl | rfl | rfl | rfl | rfl | rfl
    all_goals simp [Evt.f, evF, upd, u64]
    all_goals omega
  · have := List.all_eq_true.1 ht.1 t ht2
    simpa using this
end Go.Proofs.YtacdjioieclggaaDoor.Msg
namespace Go.Proofs.YtacdjioieclggaaDoor.Msg
open Go.RowKit Go.Maps Go.Deep Go.Lib
set_option linter.unusedVariables false
set_option linter.unusedSimpArgs false
set_option maxRecDepth 100000
def zeroE : Evt := ⟨0, 0, 0, 0, 0, 0, 0, 0, 0, 0, 0, 0, 0⟩
theorem isEvent_any (k : Int) (w : World) : Calls Tryd.prog 42 #[.int .u8 k] w fun e w' => e = .returned (.bool (decide (65 ≤ k ∧ k ≤ 69))) ∧ w' = w := by
  by_cases h1 : 65 ≤ k
  · by_cases h2 : k ≤ 69
    · go_enter Tryd.func42, Tryd.ntmps42
      go_wp2
      go_ret
      exact ⟨by simp [h1, h2], rfl⟩
    · go_enter Tryd.func42, Tryd.ntmps42
      go_wp2
      go_ret
      exact ⟨by simp [h1, h2], rfl⟩
  · go_enter Tryd.func42, Tryd.ntmps42
    go_wp2
    go_ret
    exact ⟨by simp; omega, rfl⟩
/-- the event that stands in a frame. -/
def rdE (k : Int) (l : List Int) : Evt := agnG (rdG k l) (k - 64) (tagsL k)
theorem rdE_l (k : Int) (l : List Int) (h1 : 65 ≤ k) (h4 : k ≤ 69) : (rdE k l).l = evL k (only (tagsL k) (rdG k l)) := by
  have h := agnG_l (rdG k l) (k - 64) (by omega) (by omega)
  rw [show 64 + (k - 64) = k from by omega] at h
  exact h
theorem evtV_rd (k : Int) (l : List Int) (h1 : 65 ≤ k) (h4 : k ≤ 69) : evtV k (only (tagsL k) (rdG k l)) = (rdE k l).v := (evL_iff k _ (rdE k l)).1 (rdE_l k l h1 h4).symm
theorem setE_ok (x : Evt) (hx : x.Ok) (hr : x.Rg) (t n : Int) (hn : Wd n) : (x.set t n).Ok ∧ (x.set t n).Rg := by
  unfold Evt.set
  by_cases h34 : t = 34
  · rw [if_pos h34]
    exact ⟨⟨by first | exact hn | exact hx.sq, by first | exact hn | exact hx.id, by first | exact hn | exact hx.ot, by first | exact hn | exact hx.tg, by first | exact hx.me | (simp only [u32]; omega), by first | exact hn | exact hx.qt, by first | exact hn | exact hx.pe⟩, ⟨by first | exact s64_rg n | exact hr.si, by first | exact s64_rg n | exact hr.ty, by first | exact s64_rg n | exact hr.pr, by first | exact s64_rg n | exact hr.re, by first | exact s64_rg n | exact hr.co⟩⟩
  rw [if_neg h34]
  by_cases h11 : t = 11
  · rw [if_pos h11]
    exact ⟨⟨by first | exact hn | exact hx.sq, by first | exact hn | exact hx.id, by first | exact hn | exact hx.ot, by first | exact hn | exact hx.tg, by first | exact hx.me | (simp only [u32]; omega), by first | exact hn | exact hx.qt, by first | exact hn | exact hx.pe⟩, ⟨by first | exact s64_rg n | exact hr.si, by first | exact s64_rg n | exact hr.ty, by first | exact s64_rg n | exact hr.pr, by first | exact s64_rg n | exact hr.re, by first | exact s64_rg n | exact hr.co⟩⟩
  rw [if_neg h11]
  by_cases h41 : t = 41
  · rw [if_pos h41]
    exact ⟨⟨by first | exact hn | exact hx.sq, by first | exact hn | exact hx.id, by first | exact hn | exact hx.ot, by first | exact hn | exact hx.tg, by first | exact hx.me | (simp only [u32]; omega), by first | exact hn | exact hx.qt, by first | exact hn | exact hx.pe⟩, ⟨by first | exact s64_rg n | exact hr.si, by first | exact s64_rg n | exact hr.ty, by first | exact s64_rg n | exact hr.pr, by first | exact s64_rg n | exact hr.re, by first | exact s64_rg n | exact hr.co⟩⟩
  rw [if_neg h41]
  by_cases h37 : t = 37
  · rw [if_pos h37]
    exact ⟨⟨by first | exact hn | exact hx.sq, by first | exact hn | exact hx.id, by first | exact hn | exact hx.ot, by first | exact hn | exact hx.tg, by first | exact hx.me | (simp only [u32]; omega), by first | exact hn | exact hx.qt, by first | exact hn | exact hx.pe⟩, ⟨by first | exact s64_rg n | exact hr.si, by first | exact s64_rg n | exact hr.ty, by first | exact s64_rg n | exact hr.pr, by first | exact s64_rg n | exact hr.re, by first | exact s64_rg n | exact hr.co⟩⟩
  rw [if_neg h37]
  by_cases h1 : t = 1
  · rw [if_pos h1]
    exact ⟨⟨by first | exact hn | exact hx.sq, by first | exact hn | exact hx.id, by first | exact hn | exact hx.ot, by first | exact hn | exact hx.tg, by first | exact hx.me | (simp only [u32]; omega), by first | exact hn | exact hx.qt, by first | exact hn | exact hx.pe⟩, ⟨by first | exact s64_rg n | exact hr.si, by first | exact s64_rg n | exact hr.ty, by first | exact s64_rg n | exact hr.pr, by first | exact s64_rg n | exact hr.re, by first | exact s64_rg n | exact hr.co⟩⟩
  rw [if_neg h1]
  by_cases h38 : t = 38
  · rw [if_pos h38]
    exact ⟨⟨by first | exact hn | exact hx.sq, by first | exact hn | exact hx.id, by first | exact hn | exact hx.ot, by first | exact hn | exact hx.tg, by first | exact hx.me | (simp only [u32]; omega), by first | exact hn | exact hx.qt, by first | exact hn | exact hx.pe⟩, ⟨by first | exact s64_rg n | exact hr.si, by first | exact s64_rg n | exact hr.ty, by first | exact s64_rg n | exact hr.pr, by first | exact s64_rg n | exact hr.re, by first | exact s64_rg n | exact hr.co⟩⟩
  rw [if_neg h38]
  by_cases h210 : t = 210
  · rw [if_pos h210]
    exact ⟨⟨by first | exact hn | exact hx.sq, by first | exact hn | exact hx.id, by first | exact hn | exact hx.ot, by first | exact hn | exact hx.tg, by first | exact hx.me | (simp only [u32]; omega), by first | exact hn | exact hx.qt, by first | exact hn | exact hx.pe⟩, ⟨by first | exact s64_rg n | exact hr.si, by first | exact s64_rg n | exact hr.ty, by first | exact s64_rg n | exact hr.pr, by first | exact s64_rg n | exact hr.re, by first | exact s64_rg n | exact hr.co⟩⟩
  rw [if_neg h210]
  by_cases h54 : t = 54
  · rw [if_pos h54]
    exact ⟨⟨by first | exact hn | exact hx.sq, by first | exact hn | exact hx.id, by first | exact hn | exact hx.ot, by first | exact hn | exact hx.tg, by first | exact hx.me | (simp only [u32]; omega), by first | exact hn | exact hx.qt, by first | exact hn | exact hx.pe⟩, ⟨by first | exact s64_rg n | exact hr.si, by first | exact s64_rg n | exact hr.ty, by first | exact s64_rg n | exact hr.pr, by first | exact s64_rg n | exact hr.re, by first | exact s64_rg n | exact hr.co⟩⟩
  rw [if_neg h54]
  by_cases h40 : t = 40
  · rw [if_pos h40]
    exact ⟨⟨by first | exact hn | exact hx.sq, by first | exact hn | exact hx.id, by first | exact hn | exact hx.ot, by first | exact hn | exact hx.tg, by first | exact hx.me | (simp only [u32]; omega), by first | exact hn | exact hx.qt, by first | exact hn | exact hx.pe⟩, ⟨by first | exact s64_rg n | exact hr.si, by first | exact s64_rg n | exact hr.ty, by first | exact s64_rg n | exact hr.pr, by first | exact s64_rg n | exact hr.re, by first | exact s64_rg n | exact hr.co⟩⟩
  rw [if_neg h40]
  by_cases h44 : t = 44
  · rw [if_pos h44]
    exact ⟨⟨by first | exact hn | exact hx.sq, by first | exact hn | exact hx.id, by first | exact hn | exact hx.ot, by first | exact hn | exact hx.tg, by first | exact hx.me | (simp only [u32]; omega), by first | exact hn | exact hx.qt, by first | exact hn | exact hx.pe⟩, ⟨by first | exact s64_rg n | exact hr.si, by first | exact s64_rg n | exact hr.ty, by first | exact s64_rg n | exact hr.pr, by first | exact s64_rg n | exact hr.re, by first | exact s64_rg n | exact hr.co⟩⟩
  rw [if_neg h44]
  by_cases h378 : t = 378
  · rw [if_pos h378]
    exact ⟨⟨by first | exact hn | exact hx.sq, by first | exact hn | exact hx.id, by first | exact hn | exact hx.ot, by first | exact hn | exact hx.tg, by first | exact hx.me | (simp only [u32]; omega), by first | exact hn | exact hx.qt, by first | exact hn | exact hx.pe⟩, ⟨by first | exact s64_rg n | exact hr.si, by first | exact s64_rg n | exact hr.ty, by first | exact s64_rg n | exact hr.pr, by first | exact s64_rg n | exact hr.re, by first | exact s64_rg n | exact hr.co⟩⟩
  rw [if_neg h378]
  by_cases h103 : t = 103
  · rw [if_pos h103]
    exact ⟨⟨by first | exact hn | exact hx.sq, by first | exact hn | exact hx.id, by first | exact hn | exact hx.ot, by first | exact hn | exact hx.tg, by first | exact hx.me | (simp only [u32]; omega), by first | exact hn | exact hx.qt, by first | exact hn | exact hx.pe⟩, ⟨by first | exact s64_rg n | exact hr.si, by first | exact s64_rg n | exact hr.ty, by first | exact s64_rg n | exact hr.pr, by first | exact s64_rg n | exact hr.re, by first | exact s64_rg n | exact hr.co⟩⟩
  rw [if_neg h103]
  exact ⟨hx, hr⟩
theorem agnG_ok (f : Int → Int) (hf : ∀ t, Wd (f t)) (kd : Int) (L : List Int) : (agnG f kd L).Ok ∧ (agnG f kd L).Rg := by
  have hb : (bareE kd).Ok ∧ (bareE kd).Rg := by
    unfold bareE
    exact ⟨⟨by simp [Wd], by simp [Wd], by simp [Wd], by simp [Wd], by simp, by simp [Wd], by simp [Wd]⟩, ⟨by simp, by simp, by simp, by simp, by simp⟩⟩
  unfold agnG
  generalize bareE kd = y at hb
  induction L generalizing y with
  | nil => exact hb
  | cons t L ih => exact ih _ (setE_ok y hb.1 hb.2 t (f t) (hf t))
theorem rdE_ok (k : Int) (l : List Int) : (rdE k l).Ok := (agnG_ok _ (rdG_wd k l) _ _).1
theorem pwE_len (x : Evt) : x.pw.length = 7 := by
  unfold Evt.pw
  split
  · exact frW_len _ _ _
  · rfl
def uqE (k : Int) (l : List Int) : Int := if 65 ≤ k ∧ k ≤ 69 then (if (rdE k l).e = 0 ∧ (rdE k l).pk = k ∧ (rdE k l).pw = l then 0 else 40) else 41
def uqI (k : Int) (l : List Int) : Evt := if uqE k l = 0 then rdE k l else zeroE
theorem res39 (fn : Func) (p u : Tmp) (h : fn.results = #[.cell p 30, .tmp u]) (tmps : Array Value) (w : World) (g : Nat) (cs : Array Value) (eu : Value)
    (hp : tmps.getD p undef = .pointer (some ⟨g, 0, none⟩)) (hu : tmps.getD u undef = eu) (hg : w.heap[g]? = some (.cells cs 30 (0, 0))) (hi : (Tryd.prog.info? 30).map (·.size) = some cs.size) :
    (results fn tmps).run Tryd.prog w = .ok (.tuple #[.agg cs, eu]) w := by
  have hp' : tmps[p]?.getD undef = .pointer (some ⟨g, 0, none⟩) := by simpa using hp
  have hu' : tmps[u]?.getD undef = eu := by simpa using hu
  simp [results, h, hp', hu', asAddr, run_loadVar_row w g 30 30 cs (0, 0) _ hg Tryd.underlying30 rfl hi]
set_option maxHeartbeats 4000000 in
set_option maxRecDepth 100000 in
theorem unpackE_any (k a0 a1 a2 a3 a4 a5 a6 : Int) (hk0 : 0 ≤ k) (hk : k < 256) (ha : ∀ x ∈ [a0, a1, a2, a3, a4, a5, a6], Wd x) (w : World) :
    Calls Tryd.prog 18 #[.agg (frV k [a0, a1, a2, a3, a4, a5, a6])] w fun e w' => e = .returned (.tuple #[.agg (uqI k [a0, a1, a2, a3, a4, a5, a6]).v, .int .i64 (uqE k [a0, a1, a2, a3, a4, a5, a6])]) ∧ Below w.heap.size w w' := by
  by_cases hin : 65 ≤ k ∧ k ≤ 69
  · obtain ⟨h1, h4⟩ := hin
    have hE : uqE k [a0, a1, a2, a3, a4, a5, a6] = if (rdE k [a0, a1, a2, a3, a4, a5, a6]).e = 0 ∧ (rdE k [a0, a1, a2, a3, a4, a5, a6]).pk = k ∧ (rdE k [a0, a1, a2, a3, a4, a5, a6]).pw = [a0, a1, a2, a3, a4, a5, a6] then 0 else 40 := by unfold uqE; rw [if_pos ⟨h1, h4⟩]
    have RF := hid (fun w => readFrame_any k a0 a1 a2 a3 a4 a5 a6 ha w)
    have IN := hid (fun b n w => event_any k b n (only (tagsL k) (rdG k [a0, a1, a2, a3, a4, a5, a6])) w (by omega) (by omega))
    rw [evtV_rd k [a0, a1, a2, a3, a4, a5, a6] h1 h4] at IN
    have PA := hid (fun w => packE_any (rdE k [a0, a1, a2, a3, a4, a5, a6]) (rdE_ok k [a0, a1, a2, a3, a4, a5, a6]) w)
    have IK := isEvent_any k
    rw [show decide (65 ≤ k ∧ k ≤ 69) = true from by simp [h1, h4]] at IK
    obtain ⟨Y, hY⟩ : ∃ y, rdE k [a0, a1, a2, a3, a4, a5, a6] = y := ⟨_, rfl⟩
    rw [hY] at PA IN hE
    have hfa : frV k [a0, a1, a2, a3, a4, a5, a6] = #[.int .u8 k, .int .u64 a0, .int .u64 a1, .int .u64 a2, .int .u64 a3, .int .u64 a4, .int .u64 a5, .int .u64 a6] := rfl
    rw [hfa] at RF
    obtain ⟨b0, b1, b2, b3, b4, b5, b6, hl⟩ := list7 (pwE_len Y)
    obtain ⟨K, hK⟩ : ∃ y, Y.pk = y := ⟨_, rfl⟩
    obtain ⟨E, hEE⟩ : ∃ y, Y.e = y := ⟨_, rfl⟩
    have hfb0 : frV K [b0, b1, b2, b3, b4, b5, b6] = #[.int .u8 K, .int .u64 b0, .int .u64 b1, .int .u64 b2, .int .u64 b3, .int .u64 b4, .int .u64 b5, .int .u64 b6] := rfl
    rw [hl, hK, hEE] at PA hE
    rw [hfb0] at PA
    clear hl hK hEE hfb0
    by_cases hok : E = 0 ∧ K = k ∧ [b0, b1, b2, b3, b4, b5, b6] = [a0, a1, a2, a3, a4, a5, a6]
    · rw [if_pos hok] at hE
      have hI : uqI k [a0, a1, a2, a3, a4, a5, a6] = Y := by unfold uqI; rw [if_pos hE, hY]
      rw [hI, hE]
      obtain ⟨rfl, rfl, hw⟩ := hok
      obtain ⟨rfl, rfl, rfl, rfl, rfl, rfl, rfl⟩ : b0 = a0 ∧ b1 = a1 ∧ b2 = a2 ∧ b3 = a3 ∧ b4 = a4 ∧ b5 = a5 ∧ b6 = a6 := by simpa using hw
      have q := eqFr_same K b0 b1 b2 b3 b4 b5 b6
      clear hE hI hw hY ha h1 h4
      unfold Evt.v eV at PA IN
      rw [hfa]
      clear hfa
      go_enter Tryd.func18, Tryd.ntmps18
      go_wp2_with (first | (go_at_call 42; refine (IK _).mono ?_; rintro e wq ⟨rfl, rfl⟩) | (go_at_call 37; refine (RF.out _).mono ?_; rintro e w2 ⟨b, n, rfl, _, _, hF, hb⟩; have HF2 := hid hF; have HB2 := hid hb; clear hF hb; refine Hid.out ?_))
      have HR0 := hid (row_on (show ((w.alloc (.cells (frV K [b0, b1, b2, b3, b4, b5, b6]) 40)).alloc (.cells zeroE.v 30)).heap[w.heap.size]? = some (.cells (frV K [b0, b1, b2, b3, b4, b5, b6]) 40 (0, 0)) from row_on (heap_alloc_new _ _) (ball _ _)) HB2.out)
      have HZ0 := hid (row_on (heap2 w (.cells (frV K [b0, b1, b2, b3, b4, b5, b6]) 40) (.cells zeroE.v 30)) HB2.out)
      have HW0 := hid (btr (btr (ball _ _) (ball _ _)) HB2.out)
      clear RF HB2
      refine hid ?_
      go_wp2_with (first | (go_at_call 43; refine (IN.out _ _ _ HF2.out).mono ?_; rintro e w3 ⟨rfl, hb⟩; have HB3 := hid hb; clear hb; refine Hid.out ?_))
      have HR1 := hid (show (w3.alloc (.cells Y.v 30)).heap[w.heap.size]? = some (.cells (frV K [b0, b1, b2, b3, b4, b5, b6]) 40 (0, 0)) from row_on (row_on HR0.out HB3.out) (ball _ _))
      have HZ1 := hid (show (w3.alloc (.cells Y.v 30)).heap[w.heap.size + 1]? = some (.cells zeroE.v 30 (0, 0)) from row_on (row_on HZ0.out HB3.out) (ball _ _))
      have HW1 := hid (show Below w.heap.size w (w3.alloc (.cells Y.v 30)) from btr (btr HW0.out HB3.out) (ball _ _))
      have HY1 := hid (show (w3.alloc (.cells Y.v 30)).heap[w3.heap.size]? = some (.cells Y.v 30 (0, 0)) from heap_alloc_new _ _)
      clear HR0 HZ0 HW0 HB3 IN HF2
      unfold Evt.v eV at HR1 HZ1 HW1 HY1
      refine hid ?_
      go_wp2_with (first | (go_at_call 15; refine (PA.out _).mono ?_; rintro e w4 ⟨rfl, hb⟩; have HB4 := hid hb; clear hb; refine Hid.out ?_))
      have HR2 := hid (show (w4.alloc (.cells (frV K [b0, b1, b2, b3, b4, b5, b6]) 40)).heap[w.heap.size]? = some (.cells (frV K [b0, b1, b2, b3, b4, b5, b6]) 40 (0, 0)) from row_on (row_on HR1.out HB4.out) (ball _ _))
      have HZ2 := hid (show (w4.alloc (.cells (frV K [b0, b1, b2, b3, b4, b5, b6]) 40)).heap[w.heap.size + 1]? = some (.cells zeroE.v 30 (0, 0)) from row_on (row_on HZ1.out HB4.out) (ball _ _))
      have HW2 := hid (show Below w.heap.size w (w4.alloc (.cells (frV K [b0, b1, b2, b3, b4, b5, b6]) 40)) from btr (btr HW1.out HB4.out) (ball _ _))
      have HY2 := hid (show (w4.alloc (.cells (frV K [b0, b1, b2, b3, b4, b5, b6]) 40)).heap[w3.heap.size]? = some (.cells Y.v 30 (0, 0)) from row_on (row_on HY1.out HB4.out) (ball _ _))
      have hfb : frV K [b0, b1, b2, b3, b4, b5, b6] = #[.int .u8 K, .int .u64 b0, .int .u64 b1, .int .u64 b2, .int .u64 b3, .int .u64 b4, .int .u64 b5, .int .u64 b6] := rfl
      rw [hfb] at HR2 HZ2 HW2 HY2
      clear HR1 HZ1 HW1 HY1 HB4 PA hfb
      obtain ⟨d0, d1, d2, d3, d4, d5, d6, d7⟩ := cells_F HR2.out
      refine hid ?_
      obtain ⟨g0, g1, g2, g3, g4, g5, g6, g7, g8, g9, g10, g11, g12⟩ := cells_E HY2.out
      go_wp2_with (first | (refine wpList_st (by rfl) 30 (.tmp 2) (.tmp 28) (by rfl) (w.heap.size + 1) Y.v (by rfl) (by rfl) 30 zeroE.v HZ2.out info39 rfl (by simp [Evt.v, eV, Value.oneCell']) ?_; intro w5 hst; have HST := hid hst; clear hst; refine Hid.out ?_))
      refine hid ?_
      go_wp2
      exact bodyPost_ret (res39 Tryd.f18 2 3 Tryd.results18 _ _ (w.heap.size + 1) Y.v _ (by rfl) (by rfl) HST.out.row info39) rfl ⟨rfl, HST.out.bel _ _ HW2.out (by omega)⟩
    · rw [if_neg hok] at hE
      have hI : uqI k [a0, a1, a2, a3, a4, a5, a6] = zeroE := by unfold uqI; rw [if_neg (by omega)]
      rw [hI, hE]
      clear hI hE hY ha h1 h4
      by_cases hE0 : E = 0
      · subst hE0
        have q := eqFr_no K k b0 b1 b2 b3 b4 b5 b6 a0 a1 a2 a3 a4 a5 a6 (fun h => hok ⟨rfl, h.1, h.2⟩)
        clear hok
        unfold Evt.v eV at PA IN
        rw [hfa]
        clear hfa
        go_enter Tryd.func18, Tryd.ntmps18
        go_wp2_with (first | (go_at_call 42; refine (IK _).mono ?_; rintro e wq ⟨rfl, rfl⟩) | (go_at_call 37; refine (RF.out _).mono ?_; rintro e w2 ⟨b, n, rfl, _, _, hF, hb⟩; have HF2 := hid hF; have HB2 := hid hb; clear hF hb; refine Hid.out ?_))
        have HR0 := hid (row_on (show ((w.alloc (.cells (frV k [a0, a1, a2, a3, a4, a5, a6]) 40)).alloc (.cells zeroE.v 30)).heap[w.heap.size]? = some (.cells (frV k [a0, a1, a2, a3, a4, a5, a6]) 40 (0, 0)) from row_on (heap_alloc_new _ _) (ball _ _)) HB2.out)
        have HZ0 := hid (row_on (heap2 w (.cells (frV k [a0, a1, a2, a3, a4, a5, a6]) 40) (.cells zeroE.v 30)) HB2.out)
        have HW0 := hid (btr (btr (ball _ _) (ball _ _)) HB2.out)
        clear RF HB2
        refine hid ?_
        go_wp2_with (first | (go_at_call 43; refine (IN.out _ _ _ HF2.out).mono ?_; rintro e w3 ⟨rfl, hb⟩; have HB3 := hid hb; clear hb; refine Hid.out ?_))
        have HR1 := hid (show (w3.alloc (.cells Y.v 30)).heap[w.heap.size]? = some (.cells (frV k [a0, a1, a2, a3, a4, a5, a6]) 40 (0, 0)) from row_on (row_on HR0.out HB3.out) (ball _ _))
        have HZ1 := hid (show (w3.alloc (.cells Y.v 30)).heap[w.heap.size + 1]? = some (.cells zeroE.v 30 (0, 0)) from row_on (row_on HZ0.out HB3.out) (ball _ _))
        have HW1 := hid (show Below w.heap.size w (w3.alloc (.cells Y.v 30)) from btr (btr HW0.out HB3.out) (ball _ _))
        have HY1 := hid (show (w3.alloc (.cells Y.v 30)).heap[w3.heap.size]? = some (.cells Y.v 30 (0, 0)) from heap_alloc_new _ _)
        clear HR0 HZ0 HW0 HB3 IN HF2
        unfold Evt.v eV at HR1 HZ1 HW1 HY1
        refine hid ?_
        go_wp2_with (first | (go_at_call 15; refine (PA.out _).mono ?_; rintro e w4 ⟨rfl, hb⟩; have HB4 := hid hb; clear hb; refine Hid.out ?_))
        have HR2 := hid (show (w4.alloc (.cells (frV K [b0, b1, b2, b3, b4, b5, b6]) 40)).heap[w.heap.size]? = some (.cells (frV k [a0, a1, a2, a3, a4, a5, a6]) 40 (0, 0)) from row_on (row_on HR1.out HB4.out) (ball _ _))
        have HZ2 := hid (show (w4.alloc (.cells (frV K [b0, b1, b2, b3, b4, b5, b6]) 40)).heap[w.heap.size + 1]? = some (.cells zeroE.v 30 (0, 0)) from row_on (row_on HZ1.out HB4.out) (ball _ _))
        have HW2 := hid (show Below w.heap.size w (w4.alloc (.cells (frV K [b0, b1, b2, b3, b4, b5, b6]) 40)) from btr (btr HW1.out HB4.out) (ball _ _))
        have HY2 := hid (show (w4.alloc (.cells (frV K [b0, b1, b2, b3, b4, b5, b6]) 40)).heap[w3.heap.size]? = some (.cells Y.v 30 (0, 0)) from row_on (row_on HY1.out HB4.out) (ball _ _))
        have hfb : frV K [b0, b1, b2, b3, b4, b5, b6] = #[.int .u8 K, .int .u64 b0, .int .u64 b1, .int .u64 b2, .int .u64 b3, .int .u64 b4, .int .u64 b5, .int .u64 b6] := rfl
        rw [hfb] at HR2 HZ2 HW2 HY2
        clear HR1 HZ1 HW1 HY1 HB4 PA hfb
        obtain ⟨d0, d1, d2, d3, d4, d5, d6, d7⟩ := cells_F HR2.out
        refine hid ?_
        go_wp2_with (first | (refine wpList_st (by rfl) 30 (.tmp 2) (.tmp 27) (by rfl) (w.heap.size + 1) zeroE.v (by rfl) (by rfl) 30 zeroE.v HZ2.out info39 rfl (by simp [zeroE, Evt.v, eV, Value.oneCell']) ?_; intro w5 hst; have HST := hid hst; clear hst; refine Hid.out ?_))
        refine hid ?_
        go_wp2
        exact bodyPost_ret (res39 Tryd.f18 2 3 Tryd.results18 _ _ (w.heap.size + 1) zeroE.v _ (by rfl) (by rfl) HST.out.row info39) rfl ⟨rfl, HST.out.bel _ _ HW2.out (by omega)⟩
      · have hne : (E != 0) = true := by simpa using hE0
        clear hok hE0
        unfold Evt.v eV at PA IN
        rw [hfa]
        clear hfa
        go_enter Tryd.func18, Tryd.ntmps18
        go_wp2_with (first | (go_at_call 42; refine (IK _).mono ?_; rintro e wq ⟨rfl, rfl⟩) | (go_at_call 37; refine (RF.out _).mono ?_; rintro e w2 ⟨b, n, rfl, _, _, hF, hb⟩; have HF2 := hid hF; have HB2 := hid hb; clear hF hb; refine Hid.out ?_))
        have HR0 := hid (row_on (show ((w.alloc (.cells (frV k [a0, a1, a2, a3, a4, a5, a6]) 40)).alloc (.cells zeroE.v 30)).heap[w.heap.size]? = some (.cells (frV k [a0, a1, a2, a3, a4, a5, a6]) 40 (0, 0)) from row_on (heap_alloc_new _ _) (ball _ _)) HB2.out)
        have HZ0 := hid (row_on (heap2 w (.cells (frV k [a0, a1, a2, a3, a4, a5, a6]) 40) (.cells zeroE.v 30)) HB2.out)
        have HW0 := hid (btr (btr (ball _ _) (ball _ _)) HB2.out)
        clear RF HB2
        refine hid ?_
        go_wp2_with (first | (go_at_call 43; refine (IN.out _ _ _ HF2.out).mono ?_; rintro e w3 ⟨rfl, hb⟩; have HB3 := hid hb; clear hb; refine Hid.out ?_))
        have HR1 := hid (show (w3.alloc (.cells Y.v 30)).heap[w.heap.size]? = some (.cells (frV k [a0, a1, a2, a3, a4, a5, a6]) 40 (0, 0)) from row_on (row_on HR0.out HB3.out) (ball _ _))
        have HZ1 := hid (show (w3.alloc (.cells Y.v 30)).heap[w.heap.size + 1]? = some (.cells zeroE.v 30 (0, 0)) from row_on (row_on HZ0.out HB3.out) (ball _ _))
        have HW1 := hid (show Below w.heap.size w (w3.alloc (.cells Y.v 30)) from btr (btr HW0.out HB3.out) (ball _ _))
        have HY1 := hid (show (w3.alloc (.cells Y.v 30)).heap[w3.heap.size]? = some (.cells Y.v 30 (0, 0)) from heap_alloc_new _ _)
        clear HR0 HZ0 HW0 HB3 IN HF2
        unfold Evt.v eV at HR1 HZ1 HW1 HY1
        refine hid ?_
        go_wp2_with (first | (go_at_call 15; refine (PA.out _).mono ?_; rintro e w4 ⟨rfl, hb⟩; have HB4 := hid hb; clear hb; refine Hid.out ?_))
        have HR2 := hid (show (w4.alloc (.cells (frV K [b0, b1, b2, b3, b4, b5, b6]) 40)).heap[w.heap.size]? = some (.cells (frV k [a0, a1, a2, a3, a4, a5, a6]) 40 (0, 0)) from row_on (row_on HR1.out HB4.out) (ball _ _))
        have HZ2 := hid (show (w4.alloc (.cells (frV K [b0, b1, b2, b3, b4, b5, b6]) 40)).heap[w.heap.size + 1]? = some (.cells zeroE.v 30 (0, 0)) from row_on (row_on HZ1.out HB4.out) (ball _ _))
        have HW2 := hid (show Below w.heap.size w (w4.alloc (.cells (frV K [b0, b1, b2, b3, b4, b5, b6]) 40)) from btr (btr HW1.out HB4.out) (ball _ _))
        have HY2 := hid (show (w4.alloc (.cells (frV K [b0, b1, b2, b3, b4, b5, b6]) 40)).heap[w3.heap.size]? = some (.cells Y.v 30 (0, 0)) from row_on (row_on HY1.out HB4.out) (ball _ _))
        have hfb : frV K [b0, b1, b2, b3, b4, b5, b6] = #[.int .u8 K, .int .u64 b0, .int .u64 b1, .int .u64 b2, .int .u64 b3, .int .u64 b4, .int .u64 b5, .int .u64 b6] := rfl
        rw [hfb] at HR2 HZ2 HW2 HY2
        clear HR1 HZ1 HW1 HY1 HB4 PA hfb
        obtain ⟨d0, d1, d2, d3, d4, d5, d6, d7⟩ := cells_F HR2.out
        refine hid ?_
        go_wp2_with (first | (refine wpList_st (by rfl) 30 (.tmp 2) (.tmp 27) (by rfl) (w.heap.size + 1) zeroE.v (by rfl) (by rfl) 30 zeroE.v HZ2.out info39 rfl (by simp [zeroE, Evt.v, eV, Value.oneCell']) ?_; intro w5 hst; have HST := hid hst; clear hst; refine Hid.out ?_))
        refine hid ?_
        go_wp2
        exact bodyPost_ret (res39 Tryd.f18 2 3 Tryd.results18 _ _ (w.heap.size + 1) zeroE.v _ (by rfl) (by rfl) HST.out.row info39) rfl ⟨rfl, HST.out.bel _ _ HW2.out (by omega)⟩
  · have hE : uqE k [a0, a1, a2, a3, a4, a5, a6] = 41 := by unfold uqE; rw [if_neg hin]
    have hI : uqI k [a0, a1, a2, a3, a4, a5, a6] = zeroE := by unfold uqI; rw [if_neg (by omega)]
    rw [hI, hE]
    have IK := isEvent_any k
    rw [show decide (65 ≤ k ∧ k ≤ 69) = false from by simpa using hin] at IK
    have hfa : frV k [a0, a1, a2, a3, a4, a5, a6] = #[.int .u8 k, .int .u64 a0, .int .u64 a1, .int .u64 a2, .int .u64 a3, .int .u64 a4, .int .u64 a5, .int .u64 a6] := rfl
    rw [hfa]
    clear hfa hin hE hI ha
    go_enter Tryd.func18, Tryd.ntmps18
    go_wp2_with (go_at_call 42; refine (IK _).mono ?_; rintro e wq ⟨rfl, rfl⟩)
    exact bodyPost_ret (res39 Tryd.f18 2 3 Tryd.results18 _ _ (w.heap.size + 1) zeroE.v _ (by rfl) (by rfl) (heap2 _ _ _) info39) rfl ⟨rfl, btr (ball _ _) (ball _ _)⟩
end Go.Proofs.YtacdjioieclggaaDoor.Msg
