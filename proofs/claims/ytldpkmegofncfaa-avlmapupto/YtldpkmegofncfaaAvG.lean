/-
  up.
-/
import Derived.Test.YtldpkmegofncfaaAvF
namespace Go.Proofs.Ytldpkmegofncfaa
open Go.RowKit Go.Deep
set_option linter.unusedVariables false
set_option linter.unusedSimpArgs false
/-- how many nodes there are on a way, all counted. -/
def T.sum : List T → Nat
  | [] => 0
  | t :: ts => t.n + T.sum ts
theorem T.sum_snoc (ts : List T) (t : T) : T.sum (ts ++ [t]) = T.sum ts + t.n := by
  induction ts with
  | nil => simp [T.sum]
  | cons a ts ih => simp [T.sum, ih]; omega
theorem T.ups_snoc (key : Int) (ts : List T) (t u : T) : T.ups key (ts ++ [t]) u = T.ups key ts (T.graft key t u) := by simp [T.ups]
theorem T.graft_n (key : Int) (t u : T) : (T.graft key t u).n ≤ t.n + u.n := by
  cases t with
  | nil => simp [T.graft, T.n]
  | nd k v l r =>
    unfold T.graft
    dsimp only
    split <;> rw [T.n_bal] <;> simp only [T.n] <;> omega
theorem T.way_sum (key : Int) : ∀ t : T, T.sum (t.way key) ≤ t.h * t.n
  | .nil => by simp [T.way, T.sum]
  | .nd k v l r => by
    have hl := T.way_sum key l
    have hr := T.way_sum key r
    by_cases h1 : key = k
    · simp [T.way, h1, T.sum]
    · have a1 : l.h * l.n ≤ (max l.h r.h) * (T.nd k v l r).n := Nat.mul_le_mul (Nat.le_max_left _ _) (by simp only [T.n]; omega)
      have a2 : r.h * r.n ≤ (max l.h r.h) * (T.nd k v l r).n := Nat.mul_le_mul (Nat.le_max_right _ _) (by simp only [T.n]; omega)
      have a3 : (T.nd k v l r).h * (T.nd k v l r).n = (T.nd k v l r).n + (max l.h r.h) * (T.nd k v l r).n := by
        show (1 + max l.h r.h) * _ = _
        rw [Nat.add_mul, Nat.one_mul]
      rw [a3]
      by_cases h2 : key < k
      · rw [T.way_l h1 h2]
        show (T.nd k v l r).n + T.sum (l.way key) ≤ _
        omega
      · rw [T.way_r h1 h2]
        show (T.nd k v l r).n + T.sum (r.way key) ≤ _
        omega
/-- how many steps a way has, by its cell. -/
def stepsOf (P : Nat) (w : World) : Nat :=
  match w.cell? ⟨P, 44, none⟩ with
  | some (.int _ h) => h.toNat
  | _ => 0
theorem Pa.steps {w : World} {P : Nat} {bs : List Nat} (h : Pa w P bs) : w.cell? ⟨P, 44, none⟩ = some (.int .i64 bs.length) := by
  obtain ⟨cs, h1, h2, h3, _⟩ := h.row
  rw [row_cell h1 44]; exact h3
theorem Pa.stepsOf {w : World} {P : Nat} {bs : List Nat} (h : Pa w P bs) : stepsOf P w = bs.length := by
  simp [Ytldpkmegofncfaa.stepsOf, h.steps]
theorem Tr.ne_pa {w : World} {P : Nat} {bs : List Nat} {t : T} {b : Nat} (h : Tr w t (some b)) (hP : Pa w P bs) : b ≠ P := by
  rintro rfl
  obtain ⟨cs, e1, _⟩ := hP.row
  cases t with
  | nil => cases h.ofNil
  | nd k v l r =>
    obtain ⟨_, _, e2, _⟩ := h.cells
    rw [e2] at e1
    simp at e1
set_option maxHeartbeats 2000000 in
set_option maxRecDepth 100000 in
theorem up_any {w : World} {P : Nat} {u : T} {p : Option Nat} {ts : List T} {bs : List Nat} (hP : Pa w P bs) (hW : Ws w ts bs) (h : Tr w u p) (key : Int) (hb : T.sum ts + u.n < 2 ^ 59) :
    Calls Try.prog 38 #[.pointer (some ⟨P, 0, none⟩), .int .i64 key, pb p] w fun e w' => ∃ q, e = .returned (pb q) ∧ Tr w' (T.ups key ts u) q ∧ Ko P w w' := by
  have HT := hid h
  have HP := hid hP
  have HW := hid hW
  have HB := hid hb
  obtain ⟨z, hz⟩ : ∃ z, pa p = z := ⟨_, rfl⟩
  have HZ := hid hz
  simp only [pb, hz]
  clear h hz hP hW hb
  go_enter Try.func38, Try.ntmps38
  go_wp2_with fail
  go_loopw [2] (fun nv wr => ∃ u' q ts' bs', nv = .pointer (pa q) ∧ Hid (Tr wr u' q) ∧ Hid (Pa wr P bs') ∧ Hid (Ws wr ts' bs') ∧ Hid (T.ups key ts' u' = T.ups key ts u) ∧ Hid (T.sum ts' + u'.n < 2 ^ 59) ∧ Hid (Ko P w wr)) (fun _ wr => stepsOf P wr)
  case atStart => exact ⟨u, p, ts, bs, by rw [HZ.out], HT, HP, HW, rfl, HB, Ko.refl _ _⟩
  case round =>
    obtain ⟨u', q, ts', bs', rfl, HS, HPP, HWW, HE, HF, HK⟩ := hrel
    have c44 := HPP.out.steps
    have HSO := hid HPP.out.stepsOf
    rcases List.eq_nil_or_concat bs' with rfl | ⟨cs, b, rfl⟩
    · have ht : ts' = [] := List.eq_nil_of_length_eq_zero (by simpa using HWW.out.len)
      subst ht
      simp only [List.length_nil] at c44
      obtain ⟨zq, hzq⟩ : ∃ z, pa q = z := ⟨_, rfl⟩
      have HZQ := hid hzq
      rw [hzq]
      clear hzq
      go_wp2_with fail
      go_ret
      exact ⟨q, by rw [← HZQ.out]; rfl, by rw [← HE.out]; exact HS.out, HK.out⟩
    · rw [List.concat_eq_append] at *
      have BK := hid (back_any HPP.out)
      obtain ⟨us, s, rfl, hW1, hS1⟩ := HWW.out.last
      simp only [List.length_append, List.length_singleton] at c44
      obtain ⟨n, hn⟩ : ∃ n, cs.length = n := ⟨_, rfl⟩
      rw [hn] at c44
      have cpos : (0 : Int) < ((n + 1 : Nat) : Int) := by omega
      obtain ⟨m, hm⟩ : ∃ m : Int, ((n + 1 : Nat) : Int) = m := ⟨_, rfl⟩
      rw [hm] at c44 cpos
      obtain ⟨zq, hzq⟩ : ∃ z, pa q = z := ⟨_, rfl⟩
      have HZQ := hid hzq
      rw [hzq]
      have HW1 := hid hW1
      have HS1 := hid hS1
      have HLL := hid (show (cs ++ [b]).length = cs.length + 1 by simp)
      clear hn hm hzq hW1 hS1
      go_wp2_with (first | (go_at_call 50; with_reducible refine (BK.out).mono ?_; rintro e w1 ⟨rfl, hp1, hk1⟩; clear BK; have HP1 := hid hp1; have HK1 := hid hk1; clear hp1 hk1; refine Hid.out ?_))
      cases s with
      | nil => cases HS1.out.ofNil
      | nd k v l r =>
        have S1 := HS1.out.ko HPP.out HK1.out
        have U1 := HS.out.ko HPP.out HK1.out
        have W1 := HW1.out.same (fun t c ht => ht.ko HPP.out HK1.out)
        obtain ⟨pl, pr, -, -, -, c0, -, -, -⟩ := S1.cells
        have hbd := HF.out
        rw [T.sum_snoc] at hbd
        have SD := hid (sideOf_any key k w1)
        by_cases hlt : key < k
        · have HG := hid (show T.graft key (.nd k v l r) u' = (T.nd k v u' r).bal by simp [T.graft, hlt])
          have WI := hid (show Calls Try.prog 51 #[.pointer (some ⟨b, 0, none⟩), .int .i64 0, .pointer zq] w1 fun e w' => ∃ b, e = .returned (.pointer (some ⟨b, 0, none⟩)) ∧ Tr w' (.nd k v u' r) (some b) ∧ Below w1.heap.size w1 w' from by
            have := with0 S1 U1 (by simp only [T.n] at hbd; omega)
            rw [pb, pb, HZQ.out] at this
            exact this)
          have FL := hid (show ∀ b2 w2, Tr w2 (.nd k v u' r) (some b2) → Calls Try.prog 52 #[.pointer (some ⟨b2, 0, none⟩)] w2 fun e w' => ∃ b', e = .returned (.pointer (some ⟨b', 0, none⟩)) ∧ Tr w' (T.nd k v u' r).bal (some b') ∧ Below w2.heap.size w2 w' from fun b2 w2 ht => flat_any ht (by simp only [T.n] at hbd ⊢; omega))
          have HNX := hid (show T.sum us + (T.graft key (.nd k v l r) u').n < 2 ^ 59 by have := T.graft_n key (.nd k v l r) u'; omega)
          have HPX := hid W1
          simp only [sdI, hlt, if_true] at SD
          clear S1 U1 W1 hbd hlt
          refine hid ?_
          go_wp2_with (first | (go_at_call 44; with_reducible refine (SD.out).mono ?_; rintro e w9 ⟨rfl, rfl⟩) | (go_at_call 51; with_reducible refine (WI.out).mono ?_; rintro e w2 ⟨b2, rfl, ht2, hb2⟩; have HT2 := hid ht2; have HB2 := hid hb2; clear ht2 hb2 WI) | (go_at_call 52; with_reducible refine (FL.out _ _ HT2.out).mono ?_; rintro e w3 ⟨b3, rfl, ht3, hb3⟩; have HT3 := hid ht3; have HB3 := hid (btr HB2.out hb3); clear ht3 hb3))
          go_roundw
          case rel => exact ⟨T.graft key (.nd k v l r) u', some b3, us, cs, rfl, hid (by rw [HG.out]; exact HT3.out), hid (HP1.out.on HB3.out), hid (HPX.out.same (fun t c ht => ht.on HB3.out)), hid (by rw [← HE.out, T.ups_snoc]), HNX, hid ((HK.out.trans HK1.out).trans (Ko.of HB3.out))⟩
          case measure =>
            have h1 := (HP1.out.on HB3.out).stepsOf
            rw [h1, HSO.out, HLL.out]; omega
        · have HG := hid (show T.graft key (.nd k v l r) u' = (T.nd k v l u').bal by simp [T.graft, hlt])
          have WI := hid (show Calls Try.prog 51 #[.pointer (some ⟨b, 0, none⟩), .int .i64 1, .pointer zq] w1 fun e w' => ∃ b, e = .returned (.pointer (some ⟨b, 0, none⟩)) ∧ Tr w' (.nd k v l u') (some b) ∧ Below w1.heap.size w1 w' from by
            have := with1 S1 U1 (by simp only [T.n] at hbd; omega)
            rw [pb, pb, HZQ.out] at this
            exact this)
          have FL := hid (show ∀ b2 w2, Tr w2 (.nd k v l u') (some b2) → Calls Try.prog 52 #[.pointer (some ⟨b2, 0, none⟩)] w2 fun e w' => ∃ b', e = .returned (.pointer (some ⟨b', 0, none⟩)) ∧ Tr w' (T.nd k v l u').bal (some b') ∧ Below w2.heap.size w2 w' from fun b2 w2 ht => flat_any ht (by simp only [T.n] at hbd ⊢; omega))
          have HNX := hid (show T.sum us + (T.graft key (.nd k v l r) u').n < 2 ^ 59 by have := T.graft_n key (.nd k v l r) u'; omega)
          have HPX := hid W1
          simp only [sdI, hlt, if_false] at SD
          clear S1 U1 W1 hbd hlt
          refine hid ?_
          go_wp2_with (first | (go_at_call 44; with_reducible refine (SD.out).mono ?_; rintro e w9 ⟨rfl, rfl⟩) | (go_at_call 51; with_reducible refine (WI.out).mono ?_; rintro e w2 ⟨b2, rfl, ht2, hb2⟩; have HT2 := hid ht2; have HB2 := hid hb2; clear ht2 hb2 WI) | (go_at_call 52; with_reducible refine (FL.out _ _ HT2.out).mono ?_; rintro e w3 ⟨b3, rfl, ht3, hb3⟩; have HT3 := hid ht3; have HB3 := hid (btr HB2.out hb3); clear ht3 hb3))
          go_roundw
          case rel => exact ⟨T.graft key (.nd k v l r) u', some b3, us, cs, rfl, hid (by rw [HG.out]; exact HT3.out), hid (HP1.out.on HB3.out), hid (HPX.out.same (fun t c ht => ht.on HB3.out)), hid (by rw [← HE.out, T.ups_snoc]), HNX, hid ((HK.out.trans HK1.out).trans (Ko.of HB3.out))⟩
          case measure =>
            have h1 := (HP1.out.on HB3.out).stepsOf
            rw [h1, HSO.out, HLL.out]; omega
end Go.Proofs.Ytldpkmegofncfaa
