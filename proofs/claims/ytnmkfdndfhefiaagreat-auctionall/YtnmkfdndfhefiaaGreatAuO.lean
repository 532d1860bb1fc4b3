/-
  Where the interest of an ID stands; what an interest is refused for.
-/
import Derived.Test.YtnmkfdndfhefiaaGreatAuN
namespace Go.Proofs.YtnmkfdndfhefiaaGreat
open Go.RowKit Go.Deep Go.Sort
set_option linter.unusedVariables false
set_option linter.unusedSimpArgs false
set_option maxHeartbeats 4000000
set_option maxRecDepth 100000
/-- where the interest of an ID stands, or -1. -/
def fni (id : Int) : List It → Int
  | [] => -1
  | x :: l => if x.id = id then 0 else if fni id l = -1 then -1 else fni id l + 1
theorem fni_ge (id : Int) : ∀ l : List It, -1 ≤ fni id l ∧ fni id l < l.length := by
  intro l
  induction l with
  | nil => simp [fni]
  | cons x l ih => unfold fni; simp only [List.length_cons]; split; omega; split <;> omega
theorem fni_none {id : Int} : ∀ {l : List It}, (∀ j (h : j < l.length), (l[j]).id ≠ id) → fni id l = -1
  | [], _ => rfl
  | x :: l, h => by
    unfold fni
    rw [if_neg (by have := h 0 (by simp); simpa using this), if_pos (fni_none (fun j hj => by have := h (j + 1) (by simpa using hj); simpa using this))]
theorem fni_at {id : Int} : ∀ {l : List It} {i : Nat} (hi : i < l.length), (∀ j (h : j < l.length), j < i → (l[j]).id ≠ id) → (l[i]).id = id → fni id l = i
  | x :: l, 0, hi, _, h => by unfold fni; rw [if_pos (by simpa using h)]; rfl
  | x :: l, i + 1, hi, ha, h => by
    unfold fni
    have e := fni_at (l := l) (i := i) (by simpa using hi) (fun j hj hji => by have := ha (j + 1) (by simpa using hj) (by omega); simpa using this) (by simpa using h)
    rw [if_neg (by have := ha 0 (by simp) (by omega); simpa using this), e, if_neg (by omega)]
    omega
/-- one of an ID is there. -/
def hsi (id : Int) (l : List It) : Bool := l.any fun x => x.id == id
theorem fni_hsi (id : Int) (l : List It) : decide (0 ≤ fni id l) = hsi id l := by
  induction l with
  | nil => rfl
  | cons x l ih =>
    unfold fni hsi
    rw [List.any_cons]
    by_cases h : x.id = id
    · simp [h]
    · have hg := fni_ge id l
      rw [if_neg h]
      have e : (x.id == id) = false := by simpa using h
      rw [e, Bool.false_or]
      unfold hsi at ih
      rw [← ih]
      by_cases h2 : fni id l = -1
      · rw [if_pos h2, h2]
      · rw [if_neg h2, decide_eq_decide]
        omega
theorem find1_any (X : Nat) (o : It) (id : Int) (w : World) (hX : w.cell? ⟨X, 0, none⟩ = some (.int .u64 id)) (hXs : X < w.heap.size) :
    Calls Tryz.prog 54 #[.agg #[.int .u64 o.id, .int .u32 o.mb, .int .i64 o.sd, .int .i64 o.ty, .int .i64 o.pr, .int .u64 o.qt], .pointer (some ⟨X, 0, none⟩)] w fun e w' => e = .returned (.bool (o.id == id)) ∧ Below w.heap.size w w' := by
  have hX' : X ≠ w.heap.size := by omega
  go_enter Tryz.func54, Tryz.ntmps54
  go_wp2
  go_ret
  exact ⟨rfl, ball _ _⟩
theorem indexI_any (q : Option Addr) (c X : Nat) (l : List It) (id : Int) (w : World) (h : Li w q c l) (hX : w.cell? ⟨X, 0, none⟩ = some (.int .u64 id)) (hXs : X < w.heap.size) (hl : l.length ≤ 4096) :
    Calls Tryz.prog 53 #[.slice q l.length c, .func (.func 54) #[] #[.pointer (some ⟨X, 0, none⟩)]] w fun e w' => e = .returned (.int .i64 (fni id l)) ∧ Below w.heap.size w w' := by
  obtain ⟨n, hn⟩ : ∃ n, l.length = n := ⟨_, rfl⟩
  have HN := hid hn
  have H := hid h
  have HX := hid hX
  rw [hn] at hl ⊢
  clear hn h hX
  go_enter Tryz.func53, Tryz.ntmps53
  go_wp2
  go_loopw [8] (fun iv wr => ∃ i : Nat, i ≤ n ∧ iv = .int .i64 i ∧ Hid (∀ j (hj : j < l.length), j < i → (l[j]).id ≠ id) ∧ Hid (Below w.heap.size w wr)) (fun iv _ => n - (intOf iv).toNat)
  case atStart => exact ⟨0, Nat.zero_le _, rfl, hid (fun j hj h => by omega), hid (Below.refl _ _)⟩
  case round =>
    obtain ⟨i, hin, rfl, HJ, HB⟩ := hrel
    by_cases hlt : i < n
    · have hi : i < l.length := by rw [HN.out]; exact hlt
      obtain ⟨g, hp, a0, a1, a2, a3, a4, a5⟩ := (H.out.on HB.out).cells hi
      subst hp
      have C1 := hid (find1_any X l[i] id wr ((HB.out.cell (p := ⟨X, 0, none⟩) hXs).trans HX.out) (Nat.lt_of_lt_of_le hXs HB.out.size))
      obtain ⟨z, hz⟩ : ∃ z, l[i] = z := ⟨_, rfl⟩
      rw [hz] at a0 a1 a2 a3 a4 a5 C1
      have HZ := hid hz
      have i0 : (0 : Int) ≤ (i : Int) := by omega
      have i1 : (i : Int) < (n : Int) := by omega
      clear hz
      by_cases he : z.id = id
      · have h1 : (z.id == id) = true := by simpa using he
        rw [h1] at C1
        have HE := hid he
        clear he h1
        go_wp2_with (go_at_call 54; with_reducible refine (C1.out).mono ?_; rintro e w1 ⟨rfl, hb1⟩; have HB1 := hid hb1; clear hb1)
        go_ret
        exact ⟨by rw [fni_at hi HJ.out (by rw [HZ.out]; exact HE.out)]; rfl, btr HB.out HB1.out⟩
      · have h1 : (z.id == id) = false := by simpa using he
        rw [h1] at C1
        have HE := hid he
        clear he h1
        go_wp2_with (go_at_call 54; with_reducible refine (C1.out).mono ?_; rintro e w1 ⟨rfl, hb1⟩; have HB1 := hid hb1; clear hb1)
        go_roundw
        case rel =>
          refine ⟨i + 1, by omega, by go_num, hid (fun j hj hl => ?_), hid (btr HB.out HB1.out)⟩
          by_cases hji : j = i
          · subst hji; rw [HZ.out]; exact HE.out
          · exact HJ.out j hj (by omega)
        case measure => simp [intOf]; omega
    · obtain rfl : i = n := by omega
      go_wp2
      go_ret
      exact ⟨by rw [fni_none (fun j hj => HJ.out j hj (by have := HN.out; omega))]; rfl, HB.out⟩
theorem find_any (q : Option Addr) (c : Nat) (l : List It) (id : Int) (w : World) (h : Li w q c l) (hl : l.length ≤ 4096) :
    Calls Tryz.prog 32 #[.slice q l.length c, .int .u64 id] w fun e w' => e = .returned (.int .i64 (fni id l)) ∧ Below w.heap.size w w' := by
  obtain ⟨W, hW⟩ : ∃ W, w.alloc (.cells #[.int .u64 id] 32) = W := ⟨_, rfl⟩
  have HB := hid (show Below w.heap.size w W from by rw [← hW]; exact ball _ _)
  have r1 : W.heap[w.heap.size]? = some (.cells #[.int .u64 id] 32 (0, 0)) := by rw [← hW]; exact World.alloc_heap_new _ _
  have C := hid (indexI_any q c w.heap.size l id W (h.on HB.out) (by rw [row_cell r1]; rfl) (row_lt r1) hl)
  have HW := hid hW
  clear h r1 hW
  go_enter Tryz.func32, Tryz.ntmps32
  go_wp2_with (go_at_call 53; rw [HW.out]; with_reducible refine (C.out).mono ?_; rintro e w1 ⟨rfl, hb⟩; have HB1 := hid hb; clear hb)
  go_ret
  exact ⟨rfl, btr HB.out HB1.out⟩
theorem has_any (B : Nat) (r m : Int) (p1 : Option Addr) (c1 : Nat) (b : List It) (p2 : Option Addr) (c2 : Nat) (s : List It) (id : Int) (w : World) (h : Cl w B r m p1 c1 b p2 c2 s) :
    Calls Tryz.prog 48 #[.pointer (some ⟨B, 0, none⟩), .int .u64 id] w fun e w' => e = .returned (.bool (hsi id b || hsi id s)) ∧ Below w.heap.size w w' := by
  obtain ⟨k0, k1, k2, k3⟩ := h.cells
  have HC := hid h
  have C1 := hid (find_any p1 c1 b id w h.l1 h.s1.ln)
  have C2 := hid (fun U hU => on_b (find_any p2 c2 s id U (h.l2.on hU) h.s2.ln) hU)
  have e1 := fni_hsi id b
  have e2 := fni_hsi id s
  obtain ⟨u, hu⟩ : ∃ u, fni id b = u := ⟨_, rfl⟩
  obtain ⟨v, hv⟩ : ∃ v, fni id s = v := ⟨_, rfl⟩
  rw [hu] at C1 e1
  rw [hv] at C2 e2
  have O1 := hid (fun U => (of1 B U).mono (R' := fun e w' => e = .returned (.pointer (some ⟨B, 2, none⟩)) ∧ U = w') (fun e w' h => ⟨h.1, h.2.symm⟩))
  have O2 := hid (fun U => (of2 B U).mono (R' := fun e w' => e = .returned (.pointer (some ⟨B, 3, none⟩)) ∧ U = w') (fun e w' h => ⟨h.1, h.2.symm⟩))
  clear h hu hv
  by_cases hb : 0 ≤ u
  · have HE := hid (show (hsi id b || hsi id s) = true by rw [← e1]; simp [hb])
    clear e1 e2
    go_enter Tryz.func48, Tryz.ntmps48
    go_wp2_with (first | (go_at_call 30; with_reducible refine (O1.out _).mono ?_; rintro e w1 ⟨rfl, rfl⟩) | (go_at_call 32; with_reducible refine (C1.out).mono ?_; rintro e w2 ⟨rfl, hb2⟩; have HB := hid hb2; clear hb2))
    go_ret
    exact ⟨by rw [HE.out]; rfl, HB.out⟩
  · have HE := hid (show (hsi id b || hsi id s) = decide (0 ≤ v) by rw [← e1, ← e2]; simp [hb])
    have d1 : decide (0 ≤ u) = false := decide_eq_false hb
    clear e1 e2
    go_enter Tryz.func48, Tryz.ntmps48
    go_wp2_with (first | (go_at_call 30; with_reducible refine (O1.out _).mono ?_; rintro e w1 ⟨rfl, rfl⟩) | (go_at_call 30; with_reducible refine (O2.out _).mono ?_; rintro e w1 ⟨rfl, rfl⟩) | (go_at_call 32; with_reducible refine (C1.out).mono ?_; rintro e w2 ⟨rfl, hb2⟩; have HB := hid hb2; obtain ⟨k0, k1, k2, k3⟩ := (HC.out.on hb2).cells; clear hb2) | (go_at_call 32; with_reducible refine (C2.out _ HB.out).mono ?_; rintro e w3 ⟨rfl, HB3⟩))
    go_ret
    exact ⟨by rw [HE.out]; rfl, HB3.out⟩
/-- what an interest is refused for in whatever call. -/
def ck (x : It) : Int :=
  if ¬ (x.sd = 1 ∨ x.sd = 2) then 92
  else if ¬ (x.ty = 1 ∨ x.ty = 2) then 93
  else if ¬ (0 ≤ x.pr ∧ x.pr < 262144) ∨ (x.ty = 2 ∧ x.pr ≠ 0) then 94
  else if x.qt < 1 ∨ 4294967295 < x.qt then 95
  else 0
theorem ck_ok {x : It} (h : ck x = 0) : Ik x.sd x ∧ (x.sd = 1 ∨ x.sd = 2) := by
  unfold ck at h
  split at h
  · omega
  split at h
  · omega
  split at h
  · omega
  split at h
  · omega
  exact ⟨⟨rfl, by omega, by omega, by omega, by omega, by omega, by omega⟩, by omega⟩
theorem check_any (x : It) (w : World) : Calls Tryz.prog 47 #[.agg #[.int .u64 x.id, .int .u32 x.mb, .int .i64 x.sd, .int .i64 x.ty, .int .i64 x.pr, .int .u64 x.qt]] w fun e w' => e = .returned (.int .i64 (ck x)) ∧ Below w.heap.size w w' := by
  have CS := hid (fun U => isSide_any x.sd U)
  have CP := hid (fun U => isPrice_any x.pr U)
  by_cases a1 : x.sd = 1 ∨ x.sd = 2
  · rw [show isS x.sd = true from decide_eq_true a1] at CS
    by_cases a2 : x.ty = 1 ∨ x.ty = 2
    · by_cases a3 : 0 ≤ x.pr ∧ x.pr < 262144
      · rw [show isP x.pr = true from decide_eq_true a3] at CP
        by_cases a4 : x.ty = 2 ∧ x.pr ≠ 0
        · have HE := hid (show ck x = 94 by unfold ck; rw [if_neg (by omega), if_neg (by omega), if_pos (by omega)])
          have t1 : (x.ty != 1) = true := by simp; omega
          have t2 : (x.ty != 2) = false := by simp; omega
          have t3 : (x.ty == 2) = true := by simp; omega
          have t4 : (x.pr != 0) = true := by simp; omega
          clear a1 a2 a3 a4
          go_enter Tryz.func47, Tryz.ntmps47
          go_wp2_with (first | (go_at_call 44; with_reducible refine (CS.out _).mono ?_; rintro e w1 ⟨rfl, rfl⟩) | (go_at_call 26; with_reducible refine (CP.out _).mono ?_; rintro e w1 ⟨rfl, rfl⟩))
          go_ret
          exact ⟨by rw [HE.out]; rfl, ball _ _⟩
        · by_cases a5 : x.qt < 1
          · have HE := hid (show ck x = 95 by unfold ck; rw [if_neg (by omega), if_neg (by omega), if_neg (by omega), if_pos (by omega)])
            have HA := hid (And.intro a2 a4)
            clear a1 a2 a3 a4
            by_cases b1 : x.ty = 1
            · have t1 : (x.ty != 1) = false := by simp; omega
              have t3 : (x.ty == 2) = false := by simp; omega
              clear b1
              go_enter Tryz.func47, Tryz.ntmps47
              go_wp2_with (first | (go_at_call 44; with_reducible refine (CS.out _).mono ?_; rintro e w1 ⟨rfl, rfl⟩) | (go_at_call 26; with_reducible refine (CP.out _).mono ?_; rintro e w1 ⟨rfl, rfl⟩))
              go_ret
              exact ⟨by rw [HE.out]; rfl, ball _ _⟩
            · have t1 : (x.ty != 1) = true := by simp; omega
              have t2 : (x.ty != 2) = false := by have := HA.out.1; simp; omega
              have t3 : (x.ty == 2) = true := by have := HA.out.1; simp; omega
              have t4 : (x.pr != 0) = false := by have := HA.out.2; have := HA.out.1; simp; omega
              clear b1
              go_enter Tryz.func47, Tryz.ntmps47
              go_wp2_with (first | (go_at_call 44; with_reducible refine (CS.out _).mono ?_; rintro e w1 ⟨rfl, rfl⟩) | (go_at_call 26; with_reducible refine (CP.out _).mono ?_; rintro e w1 ⟨rfl, rfl⟩))
              go_ret
              exact ⟨by rw [HE.out]; rfl, ball _ _⟩
          · by_cases a6 : 4294967295 < x.qt
            · have HE := hid (show ck x = 95 by unfold ck; rw [if_neg (by omega), if_neg (by omega), if_neg (by omega), if_pos (by omega)])
              have HA := hid (And.intro a2 a4)
              clear a1 a2 a3 a4
              by_cases b1 : x.ty = 1
              · have t1 : (x.ty != 1) = false := by simp; omega
                have t3 : (x.ty == 2) = false := by simp; omega
                clear b1
                go_enter Tryz.func47, Tryz.ntmps47
                go_wp2_with (first | (go_at_call 44; with_reducible refine (CS.out _).mono ?_; rintro e w1 ⟨rfl, rfl⟩) | (go_at_call 26; with_reducible refine (CP.out _).mono ?_; rintro e w1 ⟨rfl, rfl⟩))
                go_ret
                exact ⟨by rw [HE.out]; rfl, ball _ _⟩
              · have t1 : (x.ty != 1) = true := by simp; omega
                have t2 : (x.ty != 2) = false := by have := HA.out.1; simp; omega
                have t3 : (x.ty == 2) = true := by have := HA.out.1; simp; omega
                have t4 : (x.pr != 0) = false := by have := HA.out.2; have := HA.out.1; simp; omega
                clear b1
                go_enter Tryz.func47, Tryz.ntmps47
                go_wp2_with (first | (go_at_call 44; with_reducible refine (CS.out _).mono ?_; rintro e w1 ⟨rfl, rfl⟩) | (go_at_call 26; with_reducible refine (CP.out _).mono ?_; rintro e w1 ⟨rfl, rfl⟩))
                go_ret
                exact ⟨by rw [HE.out]; rfl, ball _ _⟩
            · have HE := hid (show ck x = 0 by unfold ck; rw [if_neg (by omega), if_neg (by omega), if_neg (by omega), if_neg (by omega)])
              have HA := hid (And.intro a2 a4)
              clear a1 a2 a3 a4
              by_cases b1 : x.ty = 1
              · have t1 : (x.ty != 1) = false := by simp; omega
                have t3 : (x.ty == 2) = false := by simp; omega
                clear b1
                go_enter Tryz.func47, Tryz.ntmps47
                go_wp2_with (first | (go_at_call 44; with_reducible refine (CS.out _).mono ?_; rintro e w1 ⟨rfl, rfl⟩) | (go_at_call 26; with_reducible refine (CP.out _).mono ?_; rintro e w1 ⟨rfl, rfl⟩))
                go_ret
                exact ⟨by rw [HE.out]; rfl, ball _ _⟩
              · have t1 : (x.ty != 1) = true := by simp; omega
                have t2 : (x.ty != 2) = false := by have := HA.out.1; simp; omega
                have t3 : (x.ty == 2) = true := by have := HA.out.1; simp; omega
                have t4 : (x.pr != 0) = false := by have := HA.out.2; have := HA.out.1; simp; omega
                clear b1
                go_enter Tryz.func47, Tryz.ntmps47
                go_wp2_with (first | (go_at_call 44; with_reducible refine (CS.out _).mono ?_; rintro e w1 ⟨rfl, rfl⟩) | (go_at_call 26; with_reducible refine (CP.out _).mono ?_; rintro e w1 ⟨rfl, rfl⟩))
                go_ret
                exact ⟨by rw [HE.out]; rfl, ball _ _⟩
      · rw [show isP x.pr = false from decide_eq_false a3] at CP
        have HE := hid (show ck x = 94 by unfold ck; rw [if_neg (by omega), if_neg (by omega), if_pos (by omega)])
        clear a1 a3
        by_cases b1 : x.ty = 1
        · have t1 : (x.ty != 1) = false := by simp; omega
          have t3 : (x.ty == 2) = false := by simp; omega
          clear a2 b1
          go_enter Tryz.func47, Tryz.ntmps47
          go_wp2_with (first | (go_at_call 44; with_reducible refine (CS.out _).mono ?_; rintro e w1 ⟨rfl, rfl⟩) | (go_at_call 26; with_reducible refine (CP.out _).mono ?_; rintro e w1 ⟨rfl, rfl⟩))
          go_ret
          exact ⟨by rw [HE.out]; rfl, ball _ _⟩
        · have t1 : (x.ty != 1) = true := by simp; omega
          have t2 : (x.ty != 2) = false := by simp; omega
          clear a2 b1
          go_enter Tryz.func47, Tryz.ntmps47
          go_wp2_with (first | (go_at_call 44; with_reducible refine (CS.out _).mono ?_; rintro e w1 ⟨rfl, rfl⟩) | (go_at_call 26; with_reducible refine (CP.out _).mono ?_; rintro e w1 ⟨rfl, rfl⟩))
          go_ret
          exact ⟨by rw [HE.out]; rfl, ball _ _⟩
    · have HE := hid (show ck x = 93 by unfold ck; rw [if_neg (by omega), if_pos (by omega)])
      have t1 : (x.ty != 1) = true := by simp; omega
      have t2 : (x.ty != 2) = true := by simp; omega
      clear a1 a2
      go_enter Tryz.func47, Tryz.ntmps47
      go_wp2_with (first | (go_at_call 44; with_reducible refine (CS.out _).mono ?_; rintro e w1 ⟨rfl, rfl⟩) | (go_at_call 26; with_reducible refine (CP.out _).mono ?_; rintro e w1 ⟨rfl, rfl⟩))
      go_ret
      exact ⟨by rw [HE.out]; rfl, ball _ _⟩
  · rw [show isS x.sd = false from decide_eq_false a1] at CS
    have HE := hid (show ck x = 92 by unfold ck; rw [if_pos (by omega)])
    clear a1
    go_enter Tryz.func47, Tryz.ntmps47
    go_wp2_with (first | (go_at_call 44; with_reducible refine (CS.out _).mono ?_; rintro e w1 ⟨rfl, rfl⟩) | (go_at_call 26; with_reducible refine (CP.out _).mono ?_; rintro e w1 ⟨rfl, rfl⟩))
    go_ret
    exact ⟨by rw [HE.out]; rfl, ball _ _⟩
theorem row6 {w : World} {g : Nat} {t : TypeId} {a0 a1 a2 a3 a4 a5 : Value} (h : w.heap[g]? = some (.cells #[a0, a1, a2, a3, a4, a5] t (0, 0))) : w.cell? ⟨g, 0, none⟩ = some a0 ∧ w.cell? ⟨g, 1, none⟩ = some a1 ∧ w.cell? ⟨g, 2, none⟩ = some a2 ∧ w.cell? ⟨g, 3, none⟩ = some a3 ∧ w.cell? ⟨g, 4, none⟩ = some a4 ∧ w.cell? ⟨g, 5, none⟩ = some a5 :=
  ⟨row_cell h 0, row_cell h 1, row_cell h 2, row_cell h 3, row_cell h 4, row_cell h 5⟩
/-- what an interest is refused for here. -/
def rfi (m : Int) (b s : List It) (x : It) : Int :=
  if ck x ≠ 0 then ck x else if x.id = 0 ∨ (hsi x.id b || hsi x.id s) = true then 97 else if m ≤ (b.length : Int) + s.length then 98 else 0
theorem refusal_any (B : Nat) (r m : Int) (p1 : Option Addr) (c1 : Nat) (b : List It) (p2 : Option Addr) (c2 : Nat) (s : List It) (x : It) (w : World) (h : Cl w B r m p1 c1 b p2 c2 s) :
    Calls Tryz.prog 29 #[.pointer (some ⟨B, 0, none⟩), .agg #[.int .u64 x.id, .int .u32 x.mb, .int .i64 x.sd, .int .i64 x.ty, .int .i64 x.pr, .int .u64 x.qt]] w fun e w' => e = .returned (.int .i64 (rfi m b s x)) ∧ Below w.heap.size w w' := by
  have HC := hid h
  obtain ⟨R, hR⟩ : ∃ R, w.heap.size = R := ⟨_, rfl⟩
  have HRR := hid hR
  obtain ⟨W, hW⟩ : ∃ W, w.alloc (.cells #[.int .u64 x.id, .int .u32 x.mb, .int .i64 x.sd, .int .i64 x.ty, .int .i64 x.pr, .int .u64 x.qt] 35) = W := ⟨_, rfl⟩
  have HBW := hid (show Below w.heap.size w W from by rw [← hW]; exact ball _ _)
  have HX := hid (show W.heap[R]? = some (.cells #[.int .u64 x.id, .int .u32 x.mb, .int .i64 x.sd, .int .i64 x.ty, .int .i64 x.pr, .int .u64 x.qt] 35 (0, 0)) from by rw [← hW, ← hR]; exact World.alloc_heap_new _ _)
  have HW := hid hW
  have CK := hid (check_any x W)
  have CH := hid (fun U hU => on_b (has_any B r m p1 c1 b p2 c2 s x.id U (h.on (btr HBW.out hU))) hU)
  have CL := hid (fun U (hU : Below W.heap.size W U) => (len_any B r m p1 c1 b p2 c2 s U (h.on (btr HBW.out hU))).mono (R' := fun e w' => e = .returned (.int .i64 ((b.length : Int) + s.length)) ∧ Hid (Below W.heap.size W w')) (fun e w' h => by obtain ⟨h1, n, rfl⟩ := h; exact ⟨h1, hid (btr hU (bdrew _ _))⟩))
  have HXC := hid (show ∀ U, Below W.heap.size W U → U.cell? ⟨R, 0, none⟩ = some (.int .u64 x.id) from fun U hU => row_cell (row_on HX.out hU) 0)
  have HBC := hid (show ∀ U, Below W.heap.size W U → U.cell? ⟨B, 1, none⟩ = some (.int .i64 m) from fun U hU => (h.on (btr HBW.out hU)).cells.2.1)
  obtain ⟨n, hn⟩ : ∃ n, (b.length : Int) + s.length = n := ⟨_, rfl⟩
  obtain ⟨hb, hhb⟩ : ∃ v, (hsi x.id b || hsi x.id s) = v := ⟨_, rfl⟩
  obtain ⟨c, hc⟩ : ∃ c, ck x = c := ⟨_, rfl⟩
  have HE := hid (show rfi m b s x = if c ≠ 0 then c else if x.id = 0 ∨ hb = true then 97 else if m ≤ n then 98 else 0 by unfold rfi; rw [hc, hhb, hn])
  rw [hc] at CK
  rw [hhb] at CH
  rw [hn] at CL
  obtain ⟨x0, x1, x2, x3, x4, x5⟩ := row6 HX.out
  clear h hW hR hn hhb hc
  by_cases a1 : c = 0
  · subst a1
    by_cases a2 : x.id = 0
    · have HE2 := hid (show rfi m b s x = 97 by rw [HE.out, if_neg (by omega), if_pos (.inl a2)])
      have t1 : (x.id == 0) = true := by simpa using a2
      clear a2 HE
      go_enter Tryz.func29, Tryz.ntmps29
      go_upto_region 1 with fail
      rw [HW.out, HRR.out]
      go_wp2_with (go_at_call 47; with_reducible refine (CK.out).mono ?_; rintro e w1 ⟨rfl, hb1⟩; have V1 := hid hb1; have y0 := HXC.out w1 hb1; clear hb1)
      go_ret
      exact ⟨by rw [HE2.out]; rfl, btr HBW.out V1.out⟩
    · have t1 : (x.id == 0) = false := by simpa using a2
      cases hb with
      | true =>
        have HE2 := hid (show rfi m b s x = 97 by rw [HE.out, if_neg (by omega), if_pos (.inr rfl)])
        clear a2 HE
        go_enter Tryz.func29, Tryz.ntmps29
        go_upto_region 1 with fail
        rw [HW.out, HRR.out]
        go_wp2_with (first | (go_at_call 47; with_reducible refine (CK.out).mono ?_; rintro e w1 ⟨rfl, hb1⟩; have V1 := hid hb1; have y0 := HXC.out w1 hb1; clear hb1) | (go_at_call 48; with_reducible refine (CH.out _ V1.out).mono ?_; rintro e w2 ⟨rfl, V2⟩))
        go_ret
        exact ⟨by rw [HE2.out]; rfl, btr HBW.out V2.out⟩
      | false =>
        by_cases a3 : m ≤ n
        · have HE2 := hid (show rfi m b s x = 98 by rw [HE.out, if_neg (by omega), if_neg (by simp [a2]), if_pos a3])
          clear a2 HE
          go_enter Tryz.func29, Tryz.ntmps29
          go_upto_region 1 with fail
          rw [HW.out, HRR.out]
          go_upto_region 6 with (first | (go_at_call 47; with_reducible refine (CK.out).mono ?_; rintro e w1 ⟨rfl, hb1⟩; have V1 := hid hb1; have y0 := HXC.out w1 hb1; clear hb1) | (go_at_call 48; with_reducible refine (CH.out _ V1.out).mono ?_; rintro e w2 ⟨rfl, V2⟩))
          have kb := HBC.out w2 V2.out
          go_region_held3 (fun U => U.cell? ⟨B, 1, none⟩ = some (.int .i64 m)) (go_keep) (first | (go_at_call 14; with_reducible refine (CL.out _ (btr V2.out (bdrew1 w2))).mono ?_; rintro e w3 ⟨rfl, V3⟩; have kb := HBC.out w3 V3.out))
          go_wp2
          go_ret
          exact ⟨by rw [HE2.out]; rfl, btr HBW.out V3.out⟩
        · have HE2 := hid (show rfi m b s x = 0 by rw [HE.out, if_neg (by omega), if_neg (by simp [a2]), if_neg a3])
          clear a2 HE
          go_enter Tryz.func29, Tryz.ntmps29
          go_upto_region 1 with fail
          rw [HW.out, HRR.out]
          go_upto_region 6 with (first | (go_at_call 47; with_reducible refine (CK.out).mono ?_; rintro e w1 ⟨rfl, hb1⟩; have V1 := hid hb1; have y0 := HXC.out w1 hb1; clear hb1) | (go_at_call 48; with_reducible refine (CH.out _ V1.out).mono ?_; rintro e w2 ⟨rfl, V2⟩))
          have kb := HBC.out w2 V2.out
          go_region_held3 (fun U => U.cell? ⟨B, 1, none⟩ = some (.int .i64 m)) (go_keep) (first | (go_at_call 14; with_reducible refine (CL.out _ (btr V2.out (bdrew1 w2))).mono ?_; rintro e w3 ⟨rfl, V3⟩; have kb := HBC.out w3 V3.out))
          go_wp2
          go_ret
          exact ⟨by rw [HE2.out]; rfl, btr HBW.out V3.out⟩
  · have HE2 := hid (show rfi m b s x = c by rw [HE.out, if_pos a1])
    have t1 : (c != 0) = true := by simpa using a1
    clear a1 HE
    go_enter Tryz.func29, Tryz.ntmps29
    go_upto_region 1 with fail
    rw [HW.out, HRR.out]
    go_wp2_with (go_at_call 47; with_reducible refine (CK.out).mono ?_; rintro e w1 ⟨rfl, hb1⟩; have V1 := hid hb1; clear hb1)
    go_ret
    exact ⟨by rw [HE2.out]; rfl, btr HBW.out V1.out⟩
end Go.Proofs.YtnmkfdndfhefiaaGreat
