/-
  A queue, plain: nodes one behind the other, and one that is taken out.
-/
import Derived.Test.YtecalelfofgfpaaArL
namespace Go.Proofs.Ytecalelfofgfpaa
open Go.RowKit Go.Deep
set_option linter.unusedVariables false
set_option linter.unusedSimpArgs false

/-- one ahead of a place. -/
def bef (L : List Nat) (i : Nat) : Option Nat := if i = 0 then none else L[i - 1]?
def Lk (nd : Nat → Nd) (L : List Nat) : Prop := ∀ i (h : i < L.length), (nd L[i]).ah = bef L i ∧ (nd L[i]).be = L[i + 1]?
def lvs (nd : Nat → Nd) (L : List Nat) : Nat := (L.filter fun b => !(nd b).dd).length
def dds (nd : Nat → Nd) (L : List Nat) : Nat := (L.filter fun b => (nd b).dd).length
def qsOf (nd : Nat → Nd) (L : List Nat) : QuS := ⟨L.head?, L.getLast?, fst nd L, lvs nd L, dds nd L⟩
theorem lvs_dds (nd : Nat → Nd) (L : List Nat) : lvs nd L + dds nd L = L.length := by
  unfold lvs dds
  induction L with
  | nil => rfl
  | cons b L ih =>
    cases h : (nd b).dd <;> simp [List.filter_cons, h] <;> omega
theorem Lk.chain {nd : Nat → Nd} {L : List Nat} (h : Lk nd L) : ∀ (m j : Nat), L.length - j = m → Ch nd L[j]? (L.drop j) := by
  intro m
  induction m with
  | zero =>
    intro j hj
    rw [List.getElem?_eq_none (by omega), List.drop_eq_nil_of_le (by omega)]
    trivial
  | succ m ih =>
    intro j hj
    have hlt : j < L.length := by omega
    rw [List.getElem?_eq_getElem hlt, List.drop_eq_getElem_cons hlt]
    refine ⟨rfl, ?_⟩
    rw [(h j hlt).2]
    exact ih (j + 1) (by omega)
theorem Lk.ch {nd : Nat → Nd} {L : List Nat} (h : Lk nd L) (k : Nat) (hk : k < L.length) : Ch nd (nd L[k]).be (L.drop (k + 1)) := by
  rw [(h k hk).2]
  exact h.chain _ (k + 1) rfl
theorem unl_self (nd : Nat → Nd) (b : Nat) : unl nd b b = lone (nd b) := by simp [unl, upd_same]
theorem unl_other (nd : Nat → Nd) (b x : Nat) (hx : ¬ x = b) (ha : ∀ z, (nd b).ah = some z → (nd b).be = some z → False) :
    unl nd b x = { nd x with be := if (nd b).ah = some x then (nd b).be else (nd x).be, ah := if (nd b).be = some x then (nd b).ah else (nd x).ah } := by
  unfold unl
  rw [upd_other _ _ _ _ hx]
  cases h1 : (nd b).ah with
  | none =>
    cases h2 : (nd b).be with
    | none => simp [setBe, setAh]
    | some y =>
      simp only [setBe, setAh]
      by_cases hy : x = y
      · subst hy; rw [upd_same]; simp
      · have hy' : ¬ y = x := fun h => hy h.symm
        rw [upd_other _ _ _ _ hy]; simp [hy']
  | some z =>
    cases h2 : (nd b).be with
    | none =>
      simp only [setBe, setAh]
      by_cases hz : x = z
      · subst hz; rw [upd_same]; simp
      · have hz' : ¬ z = x := fun h => hz h.symm
        rw [upd_other _ _ _ _ hz]; simp [hz']
    | some y =>
      have hzy : ¬ y = z := fun e => ha z h1 (by rw [h2, e])
      simp only [setBe, setAh]
      by_cases hy : x = y
      · subst hy
        have hz' : ¬ z = x := fun h => hzy h.symm
        rw [upd_same, upd_other _ _ _ _ hzy]; simp [hz']
      · rw [upd_other _ _ _ _ hy]
        by_cases hz : x = z
        · subst hz
          have hy' : ¬ y = x := fun h => hy h.symm
          rw [upd_same]; simp [hy']
        · have hy' : ¬ y = x := fun h => hy h.symm
          have hz' : ¬ z = x := fun h => hz h.symm
          rw [upd_other _ _ _ _ hz]; simp [hy', hz']
theorem bef_some {L : List Nat} {k z : Nat} (h : bef L k = some z) : 1 ≤ k ∧ L[k - 1]? = some z := by
  unfold bef at h
  split at h
  · simp at h
  · exact ⟨by omega, h⟩
theorem Lk.apart {nd : Nat → Nd} {L : List Nat} (h : Lk nd L) (hn : L.Nodup) {k : Nat} (hk : k < L.length) : ∀ z, (nd L[k]).ah = some z → (nd L[k]).be = some z → False := by
  intro z h1 h2
  rw [(h k hk).1] at h1
  rw [(h k hk).2] at h2
  obtain ⟨h3, h4⟩ := bef_some h1
  have := nodup_get hn h4 h2
  omega
theorem Lk.ne {nd : Nat → Nd} {L : List Nat} (h : Lk nd L) (hn : L.Nodup) {k : Nat} (hk : k < L.length) {x : Nat} : ((nd L[k]).ah = some x → x ∈ L ∧ ¬ x = L[k]) ∧ ((nd L[k]).be = some x → x ∈ L ∧ ¬ x = L[k]) := by
  have hkk : L[k]? = some L[k] := List.getElem?_eq_getElem hk
  constructor
  · intro e
    rw [(h k hk).1] at e
    obtain ⟨h3, h4⟩ := bef_some e
    refine ⟨List.mem_of_getElem? h4, ?_⟩
    rintro rfl
    have := nodup_get hn h4 hkk
    omega
  · intro e
    rw [(h k hk).2] at e
    refine ⟨List.mem_of_getElem? e, ?_⟩
    rintro rfl
    have := nodup_get hn e hkk
    omega
theorem unl_same (nd : Nat → Nd) (b x : Nat) (hx : ¬ x = b) (ha : ∀ z, (nd b).ah = some z → (nd b).be = some z → False) :
    (unl nd b x).dd = (nd x).dd ∧ (unl nd b x).q = (nd x).q ∧ (unl nd b x).tk = (nd x).tk ∧ (unl nd b x).life = (nd x).life ∧ (unl nd b x).idx = (nd x).idx ∧ (unl nd b x).v = (nd x).v := by
  rw [unl_other nd b x hx ha]
  exact ⟨rfl, rfl, rfl, rfl, rfl, rfl⟩
theorem Lk.out {nd : Nat → Nd} {L : List Nat} (h : Lk nd L) (hn : L.Nodup) {k : Nat} (hk : k < L.length) : Lk (unl nd L[k]) (L.eraseIdx k) := by
  have hap := h.apart hn hk
  have hkk : L[k]? = some L[k] := List.getElem?_eq_getElem hk
  intro i hi
  have hlen : (L.eraseIdx k).length = L.length - 1 := List.length_eraseIdx_of_lt hk
  have hL : ∀ j, (L.eraseIdx k)[j]? = if j < k then L[j]? else L[j + 1]? := fun j => List.getElem?_eraseIdx
  obtain ⟨j, hj, hjk, hx⟩ : ∃ j, ∃ hj : j < L.length, ¬ j = k ∧ (L.eraseIdx k)[i] = L[j] ∧ (j = if i < k then i else i + 1) := by
    have h1 := hL i
    rw [List.getElem?_eq_getElem hi] at h1
    by_cases hik : i < k
    · rw [if_pos hik, List.getElem?_eq_getElem (by omega)] at h1
      exact ⟨i, by omega, by omega, Option.some.inj h1, by rw [if_pos hik]⟩
    · rw [if_neg hik, List.getElem?_eq_getElem (by omega)] at h1
      exact ⟨i + 1, by omega, by omega, Option.some.inj h1, by rw [if_neg hik]⟩
  obtain ⟨hx, hji⟩ := hx
  have hjj : L[j]? = some L[j] := List.getElem?_eq_getElem hj
  have hne : ¬ L[j] = L[k] := by
    intro e
    rw [e] at hjj
    exact hjk (nodup_get hn hjj hkk)
  rw [hx, unl_other nd L[k] L[j] hne hap]
  have hah : (nd L[k]).ah = some L[j] ↔ j + 1 = k := by
    rw [(h k hk).1]
    constructor
    · intro e
      obtain ⟨h3, h4⟩ := bef_some e
      have := nodup_get hn h4 hjj
      omega
    · intro e
      unfold bef
      rw [if_neg (by omega), show k - 1 = j by omega]
      exact hjj
  have hbe : (nd L[k]).be = some L[j] ↔ j = k + 1 := by
    rw [(h k hk).2]
    constructor
    · intro e; exact (nodup_get hn e hjj).symm
    · intro e; rw [← e]; exact hjj
  constructor
  · show (if (nd L[k]).be = some L[j] then (nd L[k]).ah else (nd L[j]).ah) = bef (L.eraseIdx k) i
    by_cases hik : i < k
    · rw [if_pos hik] at hji
      rw [if_neg (fun e => by have := hbe.1 e; omega), (h j hj).1]
      unfold bef
      by_cases h0 : i = 0
      · rw [if_pos h0, if_pos (by omega)]
      · rw [if_neg h0, if_neg (by omega), hL, if_pos (by omega), hji]
    · rw [if_neg hik] at hji
      by_cases hik2 : i = k
      · rw [if_pos (hbe.2 (by omega)), (h k hk).1]
        unfold bef
        by_cases h0 : k = 0
        · rw [if_pos h0, if_pos (by omega)]
        · rw [if_neg h0, if_neg (by omega), hL, if_pos (by omega), hik2]
      · rw [if_neg (fun e => by have := hbe.1 e; omega), (h j hj).1]
        unfold bef
        rw [if_neg (by omega), if_neg (by omega), hL, if_neg (by omega), hji]
        congr 1
        omega
  · show (if (nd L[k]).ah = some L[j] then (nd L[k]).be else (nd L[j]).be) = (L.eraseIdx k)[i + 1]?
    rw [hL]
    by_cases hik : i < k
    · rw [if_pos hik] at hji
      by_cases hik2 : i + 1 = k
      · rw [if_pos (hah.2 (by omega)), (h k hk).2, if_neg (by omega)]
        congr 1
        omega
      · rw [if_neg (fun e => by have := hah.1 e; omega), (h j hj).2, if_pos (by omega), hji]
    · rw [if_neg hik] at hji
      rw [if_neg (fun e => by have := hah.1 e; omega), (h j hj).2, if_neg (by omega), hji]
theorem erase_parts {L : List Nat} {k : Nat} (hk : k < L.length) : L = L.take k ++ L[k] :: L.drop (k + 1) ∧ L.eraseIdx k = L.take k ++ L.drop (k + 1) := by
  refine ⟨?_, List.eraseIdx_eq_take_drop_succ L k⟩
  conv => lhs; rw [← List.take_append_drop k L, List.drop_eq_getElem_cons hk]
theorem fst_app (nd : Nat → Nd) (a b : List Nat) : fst nd (a ++ b) = (fst nd a).or (fst nd b) := by unfold fst; rw [List.find?_append]
theorem fst_congr {nd nd' : Nat → Nd} {L : List Nat} (h : ∀ x ∈ L, (nd' x).dd = (nd x).dd) : fst nd' L = fst nd L := by
  unfold fst
  induction L with
  | nil => rfl
  | cons b L ih =>
    rw [List.find?_cons, List.find?_cons, h b List.mem_cons_self, ih (fun x hx => h x (List.mem_cons_of_mem _ hx))]
theorem fst_mem {nd : Nat → Nd} {L : List Nat} {b : Nat} (h : fst nd L = some b) : b ∈ L ∧ (nd b).dd = false := by
  unfold fst at h
  exact ⟨List.mem_of_find?_eq_some h, by simpa using List.find?_some h⟩
theorem cnt_congr {nd nd' : Nat → Nd} {L : List Nat} (h : ∀ x ∈ L, (nd' x).dd = (nd x).dd) : lvs nd' L = lvs nd L ∧ dds nd' L = dds nd L := by
  unfold lvs dds
  constructor
  · congr 1; apply List.filter_congr; intro x hx; rw [h x hx]
  · congr 1; apply List.filter_congr; intro x hx; rw [h x hx]
/-- what a queue is without one of its nodes. -/
theorem qs_out {nd : Nat → Nd} {L : List Nat} (h : Lk nd L) (hn : L.Nodup) {k : Nat} (hk : k < L.length) :
    qsOf (unl nd L[k]) (L.eraseIdx k) = unq (qsOf nd L) (nd L[k]) (if fst nd L = some L[k] then fst nd (L.drop (k + 1)) else fst nd L) := by
  have hap := h.apart hn hk
  obtain ⟨hp1, hp2⟩ := erase_parts hk
  have hnot : ∀ x ∈ L.eraseIdx k, ¬ x = L[k] := by
    intro x hx
    rw [hp2] at hx
    rw [hp1] at hn
    rintro rfl
    rw [List.nodup_append, List.nodup_cons] at hn
    rcases List.mem_append.1 hx with hx | hx
    · exact hn.2.2 _ hx _ List.mem_cons_self rfl
    · exact hn.2.1.1 hx
  have hdd : ∀ x ∈ L.eraseIdx k, (unl nd L[k] x).dd = (nd x).dd := fun x hx => (unl_same nd L[k] x (hnot x hx) hap).1
  have hbl := (h k hk)
  unfold qsOf unq
  have hfst : fst (unl nd L[k]) (L.eraseIdx k) = if fst nd L = some L[k] then fst nd (L.drop (k + 1)) else fst nd L := by
    rw [fst_congr hdd, hp2, fst_app]
    have hL : fst nd L = (fst nd (L.take k)).or (if (nd L[k]).dd = true then fst nd (L.drop (k + 1)) else some L[k]) := by
      conv => lhs; rw [hp1]
      rw [fst_app]
      congr 1
      split
      · rename_i hh; exact fst_cons_dead hh
      · rename_i hh; exact fst_cons_live (by simpa using hh)
    cases hf : fst nd (L.take k) with
    | some y =>
      rw [hf] at hL
      simp only [Option.some_or] at hL ⊢
      rw [if_neg]
      · exact hL.symm
      · rw [hL]
        intro e
        obtain rfl := Option.some.inj e
        have hm := (fst_mem hf).1
        refine hnot _ ?_ rfl
        rw [hp2]
        exact List.mem_append_left _ hm
    | none =>
      rw [hf] at hL
      simp only [Option.none_or] at hL ⊢
      by_cases hd : (nd L[k]).dd = true
      · rw [if_pos hd] at hL
        split
        · rfl
        · exact hL.symm
      · rw [if_neg hd] at hL
        rw [if_pos hL]
  have hc := cnt_congr hdd
  have hlv : lvs nd L = lvs nd (L.eraseIdx k) + (if (nd L[k]).dd = true then 0 else 1) := by
    conv => lhs; rw [hp1]
    rw [hp2]
    unfold lvs
    simp only [List.filter_append, List.filter_cons, List.length_append]
    cases (nd L[k]).dd <;> simp <;> omega
  have hdv : dds nd L = dds nd (L.eraseIdx k) + (if (nd L[k]).dd = true then 1 else 0) := by
    conv => lhs; rw [hp1]
    rw [hp2]
    unfold dds
    simp only [List.filter_append, List.filter_cons, List.length_append]
    cases (nd L[k]).dd <;> simp <;> omega
  have hhd : (L.eraseIdx k).head? = if (nd L[k]).ah = none then (nd L[k]).be else L.head? := by
    rw [hbl.1, hbl.2]
    unfold bef
    by_cases h0 : k = 0
    · subst h0
      rw [if_pos rfl, if_pos rfl, List.head?_eq_getElem?, List.getElem?_eraseIdx]
      rfl
    · rw [if_neg h0, List.getElem?_eq_getElem (show k - 1 < L.length by omega), if_neg (by simp), List.head?_eq_getElem?, List.getElem?_eraseIdx, if_pos (by omega), List.head?_eq_getElem?]
  have hbk : (L.eraseIdx k).getLast? = if (nd L[k]).be = none then (nd L[k]).ah else L.getLast? := by
    have hlen : (L.eraseIdx k).length = L.length - 1 := List.length_eraseIdx_of_lt hk
    have hx := List.getElem?_eraseIdx (l := L) (i := k) (j := L.length - 1 - 1)
    rw [List.getLast?_eq_getElem?, List.getLast?_eq_getElem?, hlen, hx, hbl.1, hbl.2]
    unfold bef
    by_cases hl : k + 1 < L.length
    · have h1 : ¬ L.length - 1 - 1 < k := by omega
      have h2 : L.length - 1 - 1 + 1 = L.length - 1 := by omega
      have h3 : L[k + 1]? = some L[k + 1] := List.getElem?_eq_getElem hl
      simp [h1, h2, h3]
    · have h3 : L[k + 1]? = none := List.getElem?_eq_none (by omega)
      by_cases h0 : k = 0
      · have h1 : ¬ L.length - 1 - 1 < k := by omega
        have h4 : L[L.length - 1 - 1 + 1]? = none := List.getElem?_eq_none (by omega)
        rw [if_neg h1, h4, h3, if_pos rfl, if_pos h0]
      · have h1 : L.length - 1 - 1 < k := by omega
        have h2 : L.length - 1 - 1 = k - 1 := by omega
        rw [if_pos h1, h3, if_pos rfl, if_neg h0, h2]
  rw [hfst, hhd, hbk, hc.1, hc.2]
  congr 1
  · rw [hlv]; cases (nd L[k]).dd <;> simp
  · rw [hdv]; cases (nd L[k]).dd <;> simp
end Go.Proofs.Ytecalelfofgfpaa
