/-
  Levels that may be read; whether they can be.
-/
import Derived.Test.YtojmcfkbekodpaaKk
namespace Go.Proofs.Ytojmcfkbekodpaa.Fd
open Go.RowKit Go.Deep
set_option linter.unusedVariables false
set_option linter.unusedSimpArgs false
set_option maxHeartbeats 1000000
set_option maxRecDepth 100000
def lvc (l : List Lv) : List Value := l.flatMap fun x => [.int .i64 x.pr, .int .u64 x.qt, .int .i64 x.ct]
theorem lvc_nil : lvc [] = [] := rfl
theorem lvc_cons (x : Lv) (l : List Lv) : lvc (x :: l) = [.int .i64 x.pr, .int .u64 x.qt, .int .i64 x.ct] ++ lvc l := by simp [lvc]
theorem lvc_app (a b : List Lv) : lvc (a ++ b) = lvc a ++ lvc b := by simp [lvc]
theorem lvc_len (l : List Lv) : (lvc l).length = l.length * 3 := by
  induction l with
  | nil => rfl
  | cons x l ih => rw [lvc_cons, List.length_append, ih, List.length_cons]; simp; omega
theorem lvc_get {l : List Lv} {i : Nat} (hi : i < l.length) : (lvc l)[i * 3]? = some (.int .i64 l[i].pr) ∧ (lvc l)[i * 3 + 1]? = some (.int .u64 l[i].qt) ∧ (lvc l)[i * 3 + 2]? = some (.int .i64 l[i].ct) := by
  induction l generalizing i with
  | nil => simp at hi
  | cons x l ih =>
    rw [lvc_cons]
    cases i with
    | zero => exact ⟨rfl, rfl, rfl⟩
    | succ i =>
      obtain ⟨a, b, c⟩ := ih (i := i) (by simpa using hi)
      rw [show (i + 1) * 3 = i * 3 + 3 by omega, show i * 3 + 3 + 1 = (i * 3 + 1) + 3 by omega, show i * 3 + 3 + 2 = (i * 3 + 2) + 3 by omega]
      exact ⟨a, b, c⟩
theorem lvc_one (l : List Lv) : ∀ u ∈ lvc l, u.oneCell' = true := by
  intro u hu
  simp only [lvc, List.mem_flatMap] at hu
  obtain ⟨x, _, hx⟩ := hu
  simp only [List.mem_cons, List.not_mem_nil, or_false] at hx
  rcases hx with rfl | rfl | rfl <;> rfl
theorem lvc_drop (l : List Lv) (n : Nat) : lvc (l.drop n) = (lvc l).drop (n * 3) := by
  induction l generalizing n with
  | nil => simp [lvc]
  | cons x l ih =>
    cases n with
    | zero => simp
    | succ n => rw [List.drop_succ_cons, ih, lvc_cons, show (n + 1) * 3 = n * 3 + 3 by omega]; simp [List.drop_append]
theorem lvc_take (l : List Lv) (n : Nat) : lvc (l.take n) = (lvc l).take (n * 3) := by
  induction l generalizing n with
  | nil => simp [lvc]
  | cons x l ih =>
    cases n with
    | zero => simp [lvc]
    | succ n => rw [List.take_succ_cons, lvc_cons, lvc_cons, ih, show (n + 1) * 3 = n * 3 + 3 by omega]; simp [List.take_append]
/-- levels that may be read. -/
structure Rl (w : World) (p : Option Addr) (c : Nat) (l : List Lv) : Prop where
  nil : p = none → l = [] ∧ c = 0
  cap : l.length ≤ c
  max : c ≤ maxLen
  get : ∀ ad, p = some ad → ∀ j u, (lvc l)[j]? = some u → w.cell? (ad.add j) = some u
theorem Rl.empty (w : World) : Rl w none 0 [] := ⟨fun _ => ⟨rfl, rfl⟩, Nat.le_refl _, Nat.zero_le _, fun _ h => by cases h⟩
theorem Rl.some {w : World} {p : Option Addr} {c : Nat} {l : List Lv} (h : Rl w p c l) (hl : 0 < l.length) : ∃ g o, p = Option.some ⟨g, o, none⟩ ∧ g < w.heap.size := by
  cases p with
  | none => have := (h.nil rfl).1; subst this; simp at hl
  | some ad =>
    have := h.get ad rfl (0 * 3) _ (lvc_get hl).1
    obtain ⟨g, o, sp⟩ := ad
    have e : sp = none := by simpa [Addr.add] using World.cell?_spot this
    subst e
    refine ⟨g, o, rfl, ?_⟩
    rw [Addr.add_mid] at this
    exact block_lt_of_cell (v := .int .i64 (l[0]).pr) this
theorem Rl.cells {w : World} {p : Option Addr} {c : Nat} {l : List Lv} (h : Rl w p c l) {i : Nat} (hi : i < l.length) : ∃ g o, p = Option.some ⟨g, o, none⟩ ∧ g < w.heap.size ∧ w.cell? ⟨g, o + i * 3, none⟩ = Option.some (.int .i64 l[i].pr) ∧ w.cell? ⟨g, o + i * 3 + 1, none⟩ = Option.some (.int .u64 l[i].qt) ∧ w.cell? ⟨g, o + i * 3 + 2, none⟩ = Option.some (.int .i64 l[i].ct) := by
  obtain ⟨g, o, rfl, hg⟩ := h.some (by omega)
  obtain ⟨a, b, c⟩ := lvc_get hi
  have a := h.get _ rfl _ _ a
  have b := h.get _ rfl _ _ b
  have c := h.get _ rfl _ _ c
  rw [Addr.add_mid] at a b c
  exact ⟨g, o, rfl, hg, a, b, c⟩
theorem Rl.same {w w' : World} {p : Option Addr} {c : Nat} {l : List Lv} (h : Rl w p c l) (hs : ∀ g o, p = Option.some ⟨g, o, none⟩ → g < w.heap.size → w'.heap[g]? = w.heap[g]?) : Rl w' p c l := by
  refine ⟨h.nil, h.cap, h.max, fun ad e j u hj => ?_⟩
  have hl : 0 < l.length := by
    have := (List.getElem?_eq_some_iff.1 hj).1
    rw [lvc_len] at this; omega
  obtain ⟨g, o, e2, hg⟩ := h.some hl
  rw [e2] at e
  injection e with e
  subst e
  have := h.get _ e2 j u hj
  rw [Addr.add_mid] at this ⊢
  rw [← this]
  simp only [World.cell?, hs g o e2 hg]
theorem Rl.on {w w' : World} {p : Option Addr} {c : Nat} {l : List Lv} (h : Rl w p c l) (hb : Below w.heap.size w w') : Rl w' p c l := h.same (fun g o _ hg => hb.block g hg)
theorem Rl.kept {w w' : World} {B : Nat → Prop} {p : Option Addr} {c : Nat} {l : List Lv} (h : Rl w p c l) (hk : Kp B w w') (hB : ∀ g o, p = Option.some ⟨g, o, none⟩ → ¬ B g) : Rl w' p c l := h.same (fun g o e hg => hk.obj g hg (hB g o e))
/-- of two numbers. -/
def cm3 (x y : Int) : Int := if x < y then -1 else if y < x then 1 else 0
theorem cmpI_any (x y : Int) (w : World) : Calls Try.prog 89 #[.int .i64 x, .int .i64 y] w fun e w' => e = .returned (.int .i64 (cm3 x y)) ∧ w' = w := by
  have N := hid (fun (x : Int) (U : World) => (show Calls Try.prog 95 #[.int .i64 x] U fun e w' => e = .returned (.bool false) ∧ w' = U from by
    have q : (x != x) = false := by simp
    go_enter Try.func95, Try.ntmps95
    go_wp2
    go_ret
    exact ⟨by simp, rfl⟩))
  by_cases h1 : x < y
  · have e : cm3 x y = -1 := by simp [cm3, h1]
    rw [e]
    go_enter Try.func89, Try.ntmps89
    go_wp2_with (go_at_call 95; with_reducible refine (N.out _ _).mono ?_; rintro e w1 ⟨rfl, rfl⟩)
    go_ret
    exact ⟨rfl, rfl⟩
  · by_cases h2 : y < x
    · have e : cm3 x y = 1 := by simp [cm3, h1, h2]
      rw [e]
      go_enter Try.func89, Try.ntmps89
      go_wp2_with (go_at_call 95; with_reducible refine (N.out _ _).mono ?_; rintro e w1 ⟨rfl, rfl⟩)
      go_ret
      exact ⟨rfl, rfl⟩
    · have e : cm3 x y = 0 := by simp [cm3, h1, h2]
      rw [e]
      go_enter Try.func89, Try.ntmps89
      go_wp2_with (go_at_call 95; with_reducible refine (N.out _ _).mono ?_; rintro e w1 ⟨rfl, rfl⟩)
      go_ret
      exact ⟨rfl, rfl⟩
/-- how two prices of a side stand. -/
def od (s a b : Int) : Int := if s = 1 then cm3 b a else cm3 a b
theorem od_neg {s a b : Int} : od s a b < 0 ↔ bt s a b = true := by
  unfold od bt cm3
  split
  · simp only [decide_eq_true_eq]; split
    · simp_all
    · split <;> simp_all
  · simp only [decide_eq_true_eq]; split
    · simp_all
    · split <;> simp_all
theorem od_pos {s a b : Int} : 0 < od s a b ↔ bt s b a = true := by
  unfold od bt cm3
  split
  · simp only [decide_eq_true_eq]; split
    · simp; omega
    · split <;> simp_all
  · simp only [decide_eq_true_eq]; split
    · simp; omega
    · split <;> simp_all
theorem od_le (s a b : Int) : -1 ≤ od s a b ∧ od s a b ≤ 1 := by
  unfold od cm3
  constructor <;> (repeat' split) <;> omega
theorem order_any (s a b : Int) (w : World) : Calls Try.prog 78 #[.int .i64 s, .int .i64 a, .int .i64 b] w fun e w' => e = .returned (.int .i64 (od s a b)) ∧ w' = w := by
  have C := hid (fun (x y : Int) (U : World) => cmpI_any x y U)
  by_cases h : s = 1
  · have q : (s == 1) = true := by simpa using h
    have e : od s a b = cm3 b a := by simp [od, h]
    rw [e]
    clear h e
    go_enter Try.func78, Try.ntmps78
    go_wp2_with (go_at_call 89; with_reducible refine (C.out _ _ _).mono ?_; rintro e w1 ⟨rfl, rfl⟩)
    go_ret
    exact ⟨rfl, rfl⟩
  · have q : (s == 1) = false := by simpa using h
    have e : od s a b = cm3 a b := by simp [od, h]
    rw [e]
    clear h e
    go_enter Try.func78, Try.ntmps78
    go_wp2_with (go_at_call 89; with_reducible refine (C.out _ _ _).mono ?_; rintro e w1 ⟨rfl, rfl⟩)
    go_ret
    exact ⟨rfl, rfl⟩
end Go.Proofs.Ytojmcfkbekodpaa.Fd
namespace Go.Proofs.Ytojmcfkbekodpaa.Fd
open Go.RowKit Go.Deep
set_option linter.unusedVariables false
set_option linter.unusedSimpArgs false
set_option maxHeartbeats 2000000
set_option maxRecDepth 100000
theorem lvG_iff (z : Lv) : lvG z = true ↔ (0 ≤ z.pr ∧ z.pr < 262144 ∧ 1 ≤ z.qt ∧ 1 ≤ z.ct) := by simp only [lvG, decide_eq_true_eq]
theorem canBeSide_any (s : Int) (p : Option Addr) (c : Nat) (l : List Lv) (w : World) (h : Rl w p c l) :
    Calls Try.prog 57 #[.int .i64 s, .slice p l.length c] w fun e w' => e = .returned (.bool (lok s l)) ∧ Below w.heap.size w w' := by
  have hmax := h.max
  have hcap := h.cap
  unfold maxLen at hmax
  have HL := hid h
  have TT := hid (fun (x : Int) (U : World) => isTick_any x U)
  have OO := hid (fun (a b : Int) (U : World) => order_any s a b U)
  obtain ⟨n, hn⟩ : ∃ n, l.length = n := ⟨_, rfl⟩
  have HN := hid hn
  rw [hn] at hcap ⊢
  clear h hn
  go_enter Try.func57, Try.ntmps57
  go_wp2
  go_loopw [9] (fun iv wr => ∃ i : Nat, i ≤ n ∧ iv = .int .i64 i ∧ Hid (∀ k (hk : k < l.length), k < i → OkAt s l k hk) ∧ Hid (Below w.heap.size w wr)) (fun iv _ => n - (intOf iv).toNat)
  case atStart => exact ⟨0, by omega, rfl, fun k _ hk => by omega, Below.refl _ _⟩
  case round =>
    obtain ⟨i, hi, rfl, HP, HB⟩ := hrel
    by_cases hlt : i < n
    · have hil : i < l.length := by have := HN.out; omega
      obtain ⟨g, o, rfl, sg, a0, a1, a2⟩ := (HL.out.on HB.out).cells hil
      obtain ⟨z, hz⟩ : ∃ z, l[i] = z := ⟨_, rfl⟩
      rw [hz] at a0 a1 a2
      have HZ := hid hz
      have i0 : (0 : Int) ≤ (i : Int) := by omega
      have i1 : (i : Int) < (n : Int) := by omega
      obtain ⟨W, hW⟩ : ∃ W, wr.alloc (.cells #[.int .i64 z.pr, .int .u64 z.qt, .int .i64 z.ct] 71) = W := ⟨_, rfl⟩
      have HW := hid hW
      have HBW := hid (show Below w.heap.size w W from by rw [← hW]; exact btr HB.out (ball _ _))
      clear hW
      cases t1 : tk z.pr with
      | false =>
        have TZ := hid (fun (U : World) => TT.out z.pr U)
        rw [t1] at TZ
        have E := hid (show lok s l = false from lok_not (i := i) (by have := HN.out; omega) (fun hk => by
          have := (lvG_iff _).1 hk.1
          rw [HZ.out] at this
          simp only [tk, decide_eq_false_iff_not] at t1
          omega))
        clear hz t1
        go_wp2_with (go_at_call 64; with_reducible refine (TZ.out _).mono ?_; rintro e w1 ⟨rfl, rfl⟩)
        go_ret
        exact ⟨by rw [E.out]; rfl, by rw [HW.out]; exact HBW.out⟩
      | true =>
        have TZ := hid (fun (U : World) => TT.out z.pr U)
        rw [t1] at TZ
        by_cases g1 : z.qt < 1
        · have E := hid (show lok s l = false from lok_not (i := i) (by have := HN.out; omega) (fun hk => by
            have := (lvG_iff _).1 hk.1
            rw [HZ.out] at this
            omega))
          clear hz t1
          go_wp2_with (go_at_call 64; with_reducible refine (TZ.out _).mono ?_; rintro e w1 ⟨rfl, rfl⟩)
          go_ret
          exact ⟨by rw [E.out]; rfl, by rw [HW.out]; exact HBW.out⟩
        · have g1' : decide (z.qt < 1) = false := by simpa using g1
          by_cases g2 : z.ct < 1
          · have E := hid (show lok s l = false from lok_not (i := i) (by have := HN.out; omega) (fun hk => by
              have := (lvG_iff _).1 hk.1
              rw [HZ.out] at this
              omega))
            clear hz t1 g1
            go_wp2_with (go_at_call 64; with_reducible refine (TZ.out _).mono ?_; rintro e w1 ⟨rfl, rfl⟩)
            go_ret
            exact ⟨by rw [E.out]; rfl, by rw [HW.out]; exact HBW.out⟩
          · have g2' : decide (z.ct < 1) = false := by simpa using g2
            have G := hid (show lvG z = true from (lvG_iff z).2 (by simp only [tk, decide_eq_true_eq] at t1; omega))
            clear hz t1 g1 g2
            by_cases i00 : i = 0
            · have d0 : decide (0 < i) = false := by simp [i00]
              have PO := hid (show OkAt s l i (by have := HN.out; omega) from ⟨by rw [HZ.out]; exact G.out, fun h0 => by omega⟩)
              have HI := hid i00
              clear i00
              go_upto_region 6 with (go_at_call 64; with_reducible refine (TZ.out _).mono ?_; rintro e w1 ⟨rfl, rfl⟩)
              rw [HW.out]
              go_quiet (fail)
              go_wp2
              go_roundw
              case rel => exact ⟨i + 1, by omega, by go_num, fun k hk hki => by
                by_cases e : k = i
                · subst e; exact PO.out
                · exact HP.out k hk (by omega), btr HBW.out (bdrew _ _)⟩
              case measure => simp [intOf]; omega
            · obtain ⟨m, hm⟩ : ∃ m, i = m + 1 := ⟨i - 1, by omega⟩
              have hml : m < l.length := by omega
              obtain ⟨g', o', e', _, b0, b1, b2⟩ := (HL.out.on HBW.out).cells hml
              injection e' with e'
              injection e' with e1 e2
              subst e1 e2
              obtain ⟨y, hy⟩ : ∃ y, l[m] = y := ⟨_, rfl⟩
              rw [hy] at b0
              have HY := hid hy
              have d0 : decide (0 < i) = true := by simp; omega
              have m0 : (i : Int) - 1 = (m : Int) := by omega
              have m1 : (0 : Int) ≤ (m : Int) := by omega
              have m2 : (m : Int) < (n : Int) := by omega
              have HM := hid hm
              have c0 : W.cell? ⟨wr.heap.size, 0, none⟩ = some (.int .i64 z.pr) := by rw [← HW.out]; exact row_cell (World.alloc_heap_new _ _) 0
              clear b1 b2 hy hm
              obtain ⟨v, hv⟩ : ∃ v, od s y.pr z.pr = v := ⟨_, rfl⟩
              have OZ := hid (fun (U : World) => OO.out y.pr z.pr U)
              rw [hv] at OZ
              have HV := hid hv
              clear hv
              by_cases hv0 : 0 ≤ v
              · have E := hid (show lok s l = false from lok_not (i := i) (by have := HN.out; omega) (fun hk => by
                  have h2 := hk.2 (by omega)
                  have e4 : l[i - 1]'(by omega) = y := by
                    have := HY.out
                    simp only [HM.out, Nat.add_sub_cancel]; exact this
                  rw [e4, HZ.out] at h2
                  have := od_neg.2 h2
                  rw [HV.out] at this
                  omega))
                go_upto_region 6 with (go_at_call 64; with_reducible refine (TZ.out _).mono ?_; rintro e w1 ⟨rfl, rfl⟩)
                rw [HW.out]
                go_quiet ((go_at_call 78; with_reducible exact Calls.quiet_of_same (OZ.out _)))
                go_wp2
                go_ret
                exact ⟨by rw [E.out]; rfl, btr HBW.out (bdrew _ _)⟩
              · have PO := hid (show OkAt s l i (by have := HN.out; omega) from ⟨by rw [HZ.out]; exact G.out, fun h0 => by
                  have e4 : l[i - 1]'(by omega) = y := by
                    have := HY.out
                    simp only [HM.out, Nat.add_sub_cancel]; exact this
                  rw [e4, HZ.out]
                  exact od_neg.1 (by rw [HV.out]; omega)⟩)
                have v1 : decide (0 ≤ v) = false := by simpa using hv0
                clear hv0
                go_upto_region 6 with (go_at_call 64; with_reducible refine (TZ.out _).mono ?_; rintro e w1 ⟨rfl, rfl⟩)
                rw [HW.out]
                go_quiet ((go_at_call 78; with_reducible exact Calls.quiet_of_same (OZ.out _)))
                go_wp2
                go_roundw
                case rel => exact ⟨i + 1, by omega, by go_num, fun k hk hki => by
                  by_cases e : k = i
                  · subst e; exact PO.out
                  · exact HP.out k hk (by omega), btr HBW.out (bdrew _ _)⟩
                case measure => simp [intOf]; omega
    · have E := hid (show lok s l = true from (lok_iff s l).2 (fun k hk => HP.out k hk (by have := HN.out; omega)))
      go_wp2
      go_ret
      exact ⟨by rw [E.out]; rfl, HB.out⟩
end Go.Proofs.Ytojmcfkbekodpaa.Fd
namespace Go.Proofs.Ytojmcfkbekodpaa.Fd
open Go.RowKit Go.Deep
set_option linter.unusedVariables false
set_option linter.unusedSimpArgs false
set_option maxHeartbeats 2000000
set_option maxRecDepth 100000
theorem canBeLevels_any (p q : Option Addr) (c d : Nat) (l m : List Lv) (w : World) (h : Rl w p c l) (k : Rl w q d m) :
    Calls Try.prog 31 #[.slice p l.length c, .slice q m.length d] w fun e w' => e = .returned (.bool (lok 1 l && lok 2 m)) ∧ Below w.heap.size w w' := by
  have C1 := hid (canBeSide_any 1 p c l w h)
  have C2 := hid (fun U (hU : Below w.heap.size w U) => on_b (canBeSide_any 2 q d m U (k.on hU)) hU)
  cases h1 : lok 1 l with
  | false =>
    rw [h1] at C1
    clear h1 h k
    go_enter Try.func31, Try.ntmps31
    go_wp2_with (go_at_call 57; with_reducible refine (C1.out).mono ?_; rintro e w1 ⟨rfl, hb⟩; have HB := hid hb; clear hb)
    go_ret
    exact ⟨rfl, HB.out⟩
  | true =>
    rw [h1] at C1
    clear h1 h k
    go_enter Try.func31, Try.ntmps31
    go_wp2_with (first | (go_at_call 57; with_reducible refine (C1.out).mono ?_; rintro e w1 ⟨rfl, hb⟩; have HB := hid hb; clear hb C1) | (go_at_call 57; with_reducible refine (C2.out _ HB.out).mono ?_; rintro e w1 ⟨rfl, HB2⟩))
    go_ret
    exact ⟨by simp, HB2.out⟩
end Go.Proofs.Ytojmcfkbekodpaa.Fd
