/-
  The rules' small calls; where an order stands in a list.
-/
import Derived.Test.YtalgndgoedlpoaaRuM
namespace Go.Proofs.Ytalgndgoedlpoaa
open Go.RowKit Go.Deep
set_option linter.unusedVariables false
set_option linter.unusedSimpArgs false
set_option maxHeartbeats 1000000
set_option maxRecDepth 100000
/-- a price is better for a side. -/
def btt (s p q : Int) : Bool := if s = 1 then decide (q < p) else decide (p < q)
theorem better_any (s p q : Int) (w : World) : Calls Try.prog 73 #[.int .i64 s, .int .i64 p, .int .i64 q] w fun e w' => e = .returned (.bool (btt s p q)) ∧ w' = w := by
  by_cases h : s = 1
  · subst h
    go_enter Try.func73, Try.ntmps73
    go_wp2
    go_ret
    exact ⟨by simp [btt], rfl⟩
  · have h1 : (s == 1) = false := by simpa using h
    go_enter Try.func73, Try.ntmps73
    go_wp2
    go_ret
    exact ⟨by simp [btt, h], rfl⟩
/-- the other side. -/
def oth (s : Int) : Int := if s = 1 then 2 else 1
theorem other_any (s : Int) (w : World) : Calls Try.prog 61 #[.int .i64 s] w fun e w' => e = .returned (.int .i64 (oth s)) ∧ w' = w := by
  by_cases h : s = 1
  · subst h
    go_enter Try.func61, Try.ntmps61
    go_wp2
    go_ret
    exact ⟨by simp [oth], rfl⟩
  · have h1 : (s == 1) = false := by simpa using h
    go_enter Try.func61, Try.ntmps61
    go_wp2
    go_ret
    exact ⟨by simp [oth, h], rfl⟩
def rst (k : Int) : Bool := k == 1 || k == 5
theorem rests_any (k : Int) (w : World) : Calls Try.prog 45 #[.int .i64 k] w fun e w' => e = .returned (.bool (rst k)) ∧ w' = w := by
  by_cases h : k = 1
  · subst h
    go_enter Try.func45, Try.ntmps45
    go_wp2
    go_ret
    exact ⟨by simp [rst], rfl⟩
  · have h1 : (k == 1) = false := by simpa using h
    go_enter Try.func45, Try.ntmps45
    go_wp2
    go_ret
    exact ⟨by simp [rst, h1], rfl⟩
/-- what is shown and what is held back. -/
def shw (pk q : Int) : Int × Int := if pk = 0 ∨ q < pk then (q, 0) else (pk, q - pk)
theorem shown_any (pk q : Int) (w : World) (h0 : 0 ≤ pk) (h1 : q < 18446744073709551616) : Calls Try.prog 65 #[.int .u64 pk, .int .u64 q] w fun e w' => e = .returned (.tuple #[.int .u64 (shw pk q).1, .int .u64 (shw pk q).2]) ∧ w' = w := by
  by_cases h : pk = 0
  · subst h
    go_enter Try.func65, Try.ntmps65
    go_wp2
    go_ret2
    exact ⟨by simp [shw], rfl⟩
  · have h2 : (pk == 0) = false := by simpa using h
    by_cases h3 : q < pk
    · go_enter Try.func65, Try.ntmps65
      go_wp2
      go_ret2
      exact ⟨by simp [shw, h3], rfl⟩
    · have h4 : IntKind.u64.wrap (q - pk) = q - pk := by rw [IntKind.wrap_u64]; omega
      go_enter Try.func65, Try.ntmps65
      go_wp2
      go_ret2
      exact ⟨by simp [shw, h, show ¬ q < pk by omega], rfl⟩
theorem find1_any (b X : Nat) (o : Or) (id : Int) (w : World) (hb : w.heap[b]? = some (.cells (orow o) 50 (0, 0))) (hX : w.cell? ⟨X, 0, none⟩ = some (.int .u64 id)) :
    Calls Try.prog 59 #[pv b, .pointer (some ⟨X, 0, none⟩)] w fun e w' => e = .returned (.bool (o.id == id)) ∧ ∃ n, w' = w.drewN n := by
  have c0 := row_cell hb 0
  simp only [orow, List.getElem?_toArray, List.getElem?_cons_zero] at c0
  clear hb
  unfold pv
  go_enter Try.func59, Try.ntmps59
  go_wp2
  go_quiet (fail)
  go_wp2
  go_ret
  exact ⟨rfl, _, rfl⟩
/-- where the order of an ID stands, or -1. -/
def fnd (id : Int) : LO → Int
  | [] => -1
  | x :: l => if x.2.id = id then 0 else if fnd id l = -1 then -1 else fnd id l + 1
theorem fnd_ge (id : Int) : ∀ l : LO, -1 ≤ fnd id l ∧ fnd id l < l.length := by
  intro l
  induction l with
  | nil => simp [fnd]
  | cons x l ih => unfold fnd; simp only [List.length_cons]; split; omega; split <;> omega
theorem fnd_none {id : Int} : ∀ {l : LO}, (∀ x ∈ l, x.2.id ≠ id) → fnd id l = -1
  | [], _ => rfl
  | x :: l, h => by
    unfold fnd
    rw [if_neg (h x (by simp)), if_pos (fnd_none (fun y hy => h y (by simp [hy])))]
theorem fnd_at {id : Int} : ∀ {l : LO} {i : Nat} (hi : i < l.length), (∀ j (hj : j < i), (l[j]).2.id ≠ id) → (l[i]).2.id = id → fnd id l = i
  | x :: l, 0, hi, _, h => by unfold fnd; rw [if_pos (by simpa using h)]; rfl
  | x :: l, i + 1, hi, ha, h => by
    unfold fnd
    have e := fnd_at (l := l) (i := i) (by simpa using hi) (fun j hj => by have := ha (j + 1) (by omega); simpa using this) (by simpa using h)
    rw [if_neg (by have := ha 0 (by omega); simpa using this), e, if_neg (by omega)]
    omega
theorem indexFunc_any (p : Option Addr) (c X : Nat) (l : LO) (id : Int) (w : World) (h : Li w p c l) (hX : w.cell? ⟨X, 0, none⟩ = some (.int .u64 id)) (hXs : X < w.heap.size) (hn : l.length ≤ 1048576) :
    Calls Try.prog 58 #[.slice p l.length c, .func (.func 59) #[] #[.pointer (some ⟨X, 0, none⟩)]] w fun e w' => e = .returned (.int .i64 (fnd id l)) ∧ Below w.heap.size w w' := by
  have HL := hid h
  have HX := hid hX
  clear h hX
  go_enter Try.func58, Try.ntmps58
  go_wp2
  go_loopw [8] (fun iv wr => ∃ i : Nat, i ≤ l.length ∧ iv = .int .i64 i ∧ Hid (∀ j (hj : j < i) (hl : j < l.length), (l[j]).2.id ≠ id) ∧ Hid (Below w.heap.size w wr)) (fun iv _ => l.length - (intOf iv).toNat)
  case atStart => exact ⟨0, by omega, rfl, fun j hj => by omega, Below.refl _ _⟩
  case round =>
    obtain ⟨i, hi, rfl, HJ, HB⟩ := hrel
    by_cases hlt : i < l.length
    · obtain ⟨g, hp, hc, hr⟩ := (HL.out.on HB.out).cell hlt
      subst hp
      have C1 := hid (find1_any (l[i]).1 X (l[i]).2 id wr hr ((HB.out.cell hXs).trans HX.out))
      obtain ⟨z, hz⟩ : ∃ z, (l[i]).2 = z := ⟨_, rfl⟩
      obtain ⟨bl, hbl⟩ : ∃ z, (l[i]).1 = z := ⟨_, rfl⟩
      rw [hbl] at hc C1
      rw [hz] at C1
      have i0 : (0 : Int) ≤ (i : Int) := by omega
      have i1 : (i : Int) < (l.length : Int) := by omega
      by_cases hid' : z.id = id
      · have h1 : (z.id == id) = true := by simpa using hid'
        rw [h1] at C1
        have HZ := hid hz
        have HI := hid hid'
        clear hz hid' h1 hr hbl
        go_wp2_with (go_at_call 59; with_reducible refine (C1.out).mono ?_; rintro e w1 ⟨rfl, n, rfl⟩)
        go_ret
        exact ⟨by rw [fnd_at hlt (fun j hj => HJ.out j hj (by omega)) (by rw [HZ.out]; exact HI.out)]; rfl, HB.out.trans ((bdrew _ _).mono HB.out.size)⟩
      · have h1 : (z.id == id) = false := by simpa using hid'
        rw [h1] at C1
        have HZ := hid hz
        have HI := hid hid'
        clear hz hid' h1 hr hbl
        go_wp2_with (go_at_call 59; with_reducible refine (C1.out).mono ?_; rintro e w1 ⟨rfl, n, rfl⟩)
        go_roundw
        case rel =>
          refine ⟨i + 1, by omega, by go_num, fun j hj hl => ?_, HB.out.trans ((bdrew _ _).mono HB.out.size)⟩
          by_cases hji : j = i
          · subst hji; rw [HZ.out]; exact HI.out
          · exact HJ.out j (by omega) hl
        case measure => simp [intOf]; omega
    · have hi5 : i = l.length := by omega
      subst hi5
      go_wp2
      go_ret
      exact ⟨by rw [fnd_none (fun x hx => by obtain ⟨j, hj, rfl⟩ := List.getElem_of_mem hx; exact HJ.out j hj hj)]; rfl, HB.out⟩
theorem find_any (p : Option Addr) (c : Nat) (l : LO) (id : Int) (w : World) (h : Li w p c l) (hn : l.length ≤ 1048576) :
    Calls Try.prog 39 #[.slice p l.length c, .int .u64 id] w fun e w' => e = .returned (.int .i64 (fnd id l)) ∧ Below w.heap.size w w' := by
  have C := hid (indexFunc_any p c w.heap.size l id (w.alloc (.cells #[.int .u64 id] 30)) (h.on (ball _ _)) (by rw [row_cell (World.alloc_heap_new _ _)]; rfl) (by simp) hn)
  clear h
  go_enter Try.func39, Try.ntmps39
  go_wp2_with (go_at_call 58; with_reducible refine (C.out).mono ?_; rintro e w1 ⟨rfl, hb⟩)
  go_ret
  exact ⟨rfl, (ball _ _).trans (hb.mono (by simp))⟩
end Go.Proofs.Ytalgndgoedlpoaa
