/-
  pdqsort sorts: what each part of it gives.
-/
import Derived.Test.YtjpkodllemoniaaDoorXs
import Derived.Test.YtjpkodllemoniaaDoorXt
import Derived.Test.YtjpkodllemoniaaDoorSsH
namespace Go.Proofs.YtjpkodllemoniaaDoor.Sr
open Go.RowKit Go.Deep
set_option linter.unusedVariables false
set_option linter.unusedSimpArgs false
set_option maxHeartbeats 8000000
set_option maxRecDepth 100000
attribute [local go_sem ↓] Go.wp_at_zero Go.wp_at_succ
theorem swo : Go.Sort.SWO lt := Go.Sort.swo_ltInt
theorem not_t {x : Bool} (e : (!x) = true) : x = false := by cases x <;> simp_all
/-- what is sorted in a part is so in the whole. -/
def Iv (a0 b0 : Nat) (l0 : List Int) (a b : Nat) (l : List Int) : Prop := Go.Sort.Below lt a b l.toArray ∧ ∀ R, Go.Sort.PermIn a b l.toArray R → Go.Sort.SortedIn lt a b R → Go.Sort.PermIn a0 b0 l0.toArray R ∧ Go.Sort.SortedIn lt a0 b0 R
/-- it is done. -/
def Dn (a0 b0 : Nat) (l0 l : List Int) : Prop := Go.Sort.PermIn a0 b0 l0.toArray l.toArray ∧ Go.Sort.SortedIn lt a0 b0 l.toArray
def Ge (a p : Nat) (l : List Int) : Prop := 0 < a ∧ decide (gd l (a - 1) < gd l p) = false
/-- behind a partition. -/
def Pt (a0 b0 : Nat) (l0 : List Int) (a b m : Nat) (l : List Int) : Prop := Go.Sort.Below lt a m l.toArray ∧ Go.Sort.Below lt (m + 1) b l.toArray ∧
  (∀ L, Go.Sort.PermIn a m l.toArray L → Go.Sort.SortedIn lt a m L → Go.Sort.Below lt (m + 1) b L ∧ ∀ R, Go.Sort.PermIn (m + 1) b L R → Go.Sort.SortedIn lt (m + 1) b R → Go.Sort.PermIn a0 b0 l0.toArray R ∧ Go.Sort.SortedIn lt a0 b0 R) ∧
  (∀ L, Go.Sort.PermIn (m + 1) b l.toArray L → Go.Sort.SortedIn lt (m + 1) b L → Go.Sort.Below lt a m L ∧ ∀ R, Go.Sort.PermIn a m L R → Go.Sort.SortedIn lt a m R → Go.Sort.PermIn a0 b0 l0.toArray R ∧ Go.Sort.SortedIn lt a0 b0 R)
theorem Iv.perm {a0 b0 : Nat} {l0 : List Int} {a b : Nat} {l l' : List Int} (h : Iv a0 b0 l0 a b l) (hb : b ≤ l.length) (hp : Go.Sort.PermIn a b l.toArray l'.toArray) : Iv a0 b0 l0 a b l' :=
  ⟨h.1.perm (by simpa using hb) hp, fun R h1 h2 => h.2 R (Go.Sort.permIn_trans _ _ _ _ _ hp h1) h2⟩
theorem Iv.done {a0 b0 : Nat} {l0 : List Int} {a b : Nat} {l l' : List Int} (h : Iv a0 b0 l0 a b l) (hp : Go.Sort.PermIn a b l.toArray l'.toArray) (hs : Go.Sort.SortedIn lt a b l'.toArray) : Dn a0 b0 l0 l' := h.2 _ hp hs
theorem Sp.call {f : Nat} {args : Array Value} {w0 U : World} {g n : Nat} {F F' : List Int → Prop} (hS : Sp w0 U g n F) {R : Ending → Prop} (h : ∀ l, l.length = n → F l → Uz U g n l → Calls Tryd.prog f args U fun e w' => R e ∧ Sp U w' g n F') : Calls Tryd.prog f args U fun e w' => R e ∧ Hid (Sp w0 w' g n F') := by
  obtain ⟨l, q1, q2, q3⟩ := hS
  exact (h l q2.len q1 q2).mono (fun e w' hh => ⟨hh.1, hid (Sp.trans q3 hh.2)⟩)
section
variable {w0 U : World} {g cap n a0 b0 : Nat} {l0 : List Int} {a b : Nat}
theorem insT (hS : Sp w0 U g n (Iv a0 b0 l0 a b)) (h1 : a ≤ b) (h2 : b ≤ n) (hn : n ≤ 1152921504606846976) : Calls Tryd.prog 57 #[.slice (some ⟨g, 0, none⟩) n cap, .int .i64 a, .int .i64 b] U fun e w' => e = .returned (.tuple #[]) ∧ Hid (Sp w0 w' g n (Dn a0 b0 l0)) :=
  Sp.call hS (R := fun e => e = .returned (.tuple #[])) (fun l hl hf hu => (ins_ex g cap n l a b U hu h1 h2 (by omega)).mono (fun e w' hh => ⟨hh.1, hh.2.mono (fun l' _ e' => by
    obtain ⟨k1, k2⟩ := Go.Sort.insertionSort_holds swo l.toArray a b h1 (by simp; omega)
    rw [← e'] at k1 k2
    exact hf.done k1 k2)⟩))
theorem heapT (hS : Sp w0 U g n (Iv a0 b0 l0 a b)) (h1 : a ≤ b) (h2 : b ≤ n) (hn : n ≤ 1152921504606846976) : Calls Tryd.prog 58 #[.slice (some ⟨g, 0, none⟩) n cap, .int .i64 a, .int .i64 b] U fun e w' => e = .returned (.tuple #[]) ∧ Hid (Sp w0 w' g n (Dn a0 b0 l0)) :=
  Sp.call hS (R := fun e => e = .returned (.tuple #[])) (fun l hl hf hu => (heap_ex g cap n l a b U hu h1 h2 hn).mono (fun e w' hh => ⟨hh.1, hh.2.mono (fun l' _ e' => by
    obtain ⟨k1, k2⟩ := Go.Sort.heapSort_holds swo l.toArray a b h1 (by simp; omega)
    rw [← e'] at k1 k2
    exact hf.done k1 k2)⟩))
theorem brkT (hS : Sp w0 U g n (Iv a0 b0 l0 a b)) (h1 : a ≤ b) (h2 : b ≤ n) (hn : n ≤ 1152921504606846976) : Calls Tryd.prog 59 #[.slice (some ⟨g, 0, none⟩) n cap, .int .i64 a, .int .i64 b] U fun e w' => e = .returned (.tuple #[]) ∧ Hid (Sp w0 w' g n (Iv a0 b0 l0 a b)) :=
  Sp.call hS (R := fun e => e = .returned (.tuple #[])) (fun l hl hf hu => (brk_in g cap n l a b U hu h1 h2 hn).mono (fun e w' hh => ⟨hh.1, hh.2.mono (fun l' _ e' => hf.perm (by omega) e')⟩))
theorem revT (hS : Sp w0 U g n (Iv a0 b0 l0 a b)) (h1 : a ≤ b) (h2 : b ≤ n) (hn : n ≤ 1152921504606846976) : Calls Tryd.prog 61 #[.slice (some ⟨g, 0, none⟩) n cap, .int .i64 a, .int .i64 b] U fun e w' => e = .returned (.tuple #[]) ∧ Hid (Sp w0 w' g n (Iv a0 b0 l0 a b)) :=
  Sp.call hS (R := fun e => e = .returned (.tuple #[])) (fun l hl hf hu => (rev_in g cap n l a b U hu h1 h2 (by omega)).mono (fun e w' hh => ⟨hh.1, hh.2.mono (fun l' _ e' => hf.perm (by omega) e')⟩))
theorem pivT {F : List Int → Prop} (hS : Sp w0 U g n F) (h1 : a < b) (h2 : b ≤ n) (hn : n ≤ 1152921504606846976) : Calls Tryd.prog 60 #[.slice (some ⟨g, 0, none⟩) n cap, .int .i64 a, .int .i64 b] U fun e w' => ∃ (pv : Nat) (t : Int), e = .returned (.tuple #[.int .i64 pv, .int .i64 t]) ∧ Hid (a ≤ pv ∧ pv < b) ∧ Hid (Sp w0 w' g n F) := by
  have hS' := hS
  obtain ⟨l, q1, q2, q3⟩ := hS
  exact (piv_any g cap n l a b U q2 h1 h2 hn).mono (fun e w' hh => by obtain ⟨p, t, h3, h4, h5, h6⟩ := hh; exact ⟨p, t, h3, hid ⟨h4, h5⟩, hid (hS'.on h6)⟩)
theorem pinsT (hS : Sp w0 U g n (Iv a0 b0 l0 a b)) (h1 : a < b) (h2 : b ≤ n) (hn : n ≤ 1152921504606846976) : Calls Tryd.prog 62 #[.slice (some ⟨g, 0, none⟩) n cap, .int .i64 a, .int .i64 b] U fun e w' => ∃ q : Bool, e = .returned (.bool q) ∧ Hid ((q = true → Sp w0 w' g n (Dn a0 b0 l0)) ∧ (q = false → Sp w0 w' g n (Iv a0 b0 l0 a b))) := by
  obtain ⟨l, q1, q2, q3⟩ := hS
  have hl := q2.len
  exact (pins_ex g cap n l a b U q2 h1 h2 hn).mono (fun e w' hh => by
    obtain ⟨q, h3, h4, h5⟩ := hh
    obtain ⟨k1, k2⟩ := Go.Sort.partialInsertionSort_holds swo l.toArray a b h1 (by simp; omega) q1.1
    refine ⟨q, h3, hid ⟨fun e1 => Sp.trans q3 (h5.mono (fun l' _ e' => ?_)), fun e1 => Sp.trans q3 (h5.mono (fun l' _ e' => ?_))⟩⟩
    · have k3 := k2 (by rw [← h4]; exact e1)
      rw [← e'] at k1 k3
      exact q1.done k1 k3
    · rw [← e'] at k1
      exact q1.perm (by omega) k1)
theorem peqT {p : Nat} (hS : Sp w0 U g n (fun l => Iv a0 b0 l0 a b l ∧ Ge a p l)) (h1 : a ≤ p) (h1' : p < b) (h2 : b ≤ n) (hn : n ≤ 1152921504606846976) : Calls Tryd.prog 64 #[.slice (some ⟨g, 0, none⟩) n cap, .int .i64 a, .int .i64 b, .int .i64 p] U fun e w' => ∃ mid : Nat, e = .returned (.int .i64 mid) ∧ Hid (a < mid ∧ mid ≤ b) ∧ Hid (Sp w0 w' g n (Iv a0 b0 l0 mid b)) := by
  obtain ⟨l, ⟨q1, q4⟩, q2, q3⟩ := hS
  have hl := q2.len
  exact (peq_ex g cap n l a b p U q2 h1 h1' h2 hn).mono (fun e w' hh => by
    obtain ⟨m, h3, h4, h5⟩ := hh
    obtain ⟨k1, k2, k3, k4, k5⟩ := Go.Sort.round_eq swo (Go.Sort.partitionEqual_holds lt) q4.1 h1 h1' (by simp; omega) q1.1 (by rw [arr_get, arr_get]; exact q4.2) (show Go.Sort.partitionEqual lt l.toArray a b p = ((Go.Sort.partitionEqual lt l.toArray a b p).1, (Go.Sort.partitionEqual lt l.toArray a b p).2) from rfl)
    rw [← h4] at k1 k2 k4 k5
    refine ⟨m, h3, hid ⟨k1, k2⟩, hid (Sp.trans q3 (h5.mono (fun l' _ e' => ?_)))⟩
    rw [← e'] at k4 k5
    exact ⟨k4, fun R r1 r2 => q1.2 R (k5 R r1 r2).1 (k5 R r1 r2).2⟩)
theorem partT {p : Nat} (hS : Sp w0 U g n (Iv a0 b0 l0 a b)) (h1 : a ≤ p) (h1' : p < b) (h2 : b ≤ n) (hn : n ≤ 1152921504606846976) : Calls Tryd.prog 65 #[.slice (some ⟨g, 0, none⟩) n cap, .int .i64 a, .int .i64 b, .int .i64 p] U fun e w' => ∃ (mid : Nat) (r : Bool), e = .returned (.tuple #[.int .i64 mid, .bool r]) ∧ Hid (a ≤ mid ∧ mid < b) ∧ Hid (Sp w0 w' g n (Pt a0 b0 l0 a b mid)) := by
  obtain ⟨l, q1, q2, q3⟩ := hS
  have hl := q2.len
  exact (part_ex g cap n l a b p U q2 h1 h1' h2 hn).mono (fun e w' hh => by
    obtain ⟨m, r, h3, h4, h5⟩ := hh
    obtain ⟨k1, k2, k3, k4, k5, k6, k7⟩ := Go.Sort.round_part swo (Go.Sort.partition_holds lt) h1 h1' (by simp; omega) q1.1 (show Go.Sort.partition lt l.toArray a b p = ((Go.Sort.partition lt l.toArray a b p).1, (Go.Sort.partition lt l.toArray a b p).2.1, (Go.Sort.partition lt l.toArray a b p).2.2) from rfl)
    rw [← h4] at k1 k2 k4 k5 k6 k7
    refine ⟨m, r, h3, hid ⟨k1, k2⟩, hid (Sp.trans q3 (h5.mono (fun l' _ e' => ?_)))⟩
    rw [← e'] at k4 k5 k6 k7
    exact ⟨k4, k5, fun L r1 r2 => ⟨(k6 L r1 r2).1, fun R s1 s2 => q1.2 R ((k6 L r1 r2).2 R s1 s2).1 ((k6 L r1 r2).2 R s1 s2).2⟩, fun L r1 r2 => ⟨(k7 L r1 r2).1, fun R s1 s2 => q1.2 R ((k7 L r1 r2).2 R s1 s2).1 ((k7 L r1 r2).2 R s1 s2).2⟩⟩)
theorem leftT {m1 mid : Nat} {lim : Int} (hm1 : m1 = mid + 1) (hS : Sp w0 U g n (Pt a0 b0 l0 a b mid)) (IH : ∀ l, Uz U g n l → Go.Sort.Below lt a mid l.toArray → Calls Tryd.prog 55 #[.slice (some ⟨g, 0, none⟩) n cap, .int .i64 a, .int .i64 mid, .int .i64 lim] U fun e w' => e = .returned (.tuple #[]) ∧ Sp U w' g n (Dn a mid l)) : Calls Tryd.prog 55 #[.slice (some ⟨g, 0, none⟩) n cap, .int .i64 a, .int .i64 mid, .int .i64 lim] U fun e w' => e = .returned (.tuple #[]) ∧ Hid (Sp w0 w' g n (Iv a0 b0 l0 m1 b)) := by
  subst hm1
  exact Sp.call hS (R := fun e => e = .returned (.tuple #[])) (fun l hl hf hu => (IH l hu hf.1).mono (fun e w' hh => ⟨hh.1, hh.2.mono (fun l' _ e' => hf.2.2.1 _ e'.1 e'.2)⟩))
theorem rightT {m1 mid : Nat} {lim : Int} (hm1 : m1 = mid + 1) (hS : Sp w0 U g n (Pt a0 b0 l0 a b mid)) (IH : ∀ l, Uz U g n l → Go.Sort.Below lt m1 b l.toArray → Calls Tryd.prog 55 #[.slice (some ⟨g, 0, none⟩) n cap, .int .i64 m1, .int .i64 b, .int .i64 lim] U fun e w' => e = .returned (.tuple #[]) ∧ Sp U w' g n (Dn m1 b l)) : Calls Tryd.prog 55 #[.slice (some ⟨g, 0, none⟩) n cap, .int .i64 m1, .int .i64 b, .int .i64 lim] U fun e w' => e = .returned (.tuple #[]) ∧ Hid (Sp w0 w' g n (Iv a0 b0 l0 a mid)) := by
  subst hm1
  exact Sp.call hS (R := fun e => e = .returned (.tuple #[])) (fun l hl hf hu => (IH l hu hf.2.1).mono (fun e w' hh => ⟨hh.1, hh.2.mono (fun l' _ e' => hf.2.2.2 _ e'.1 e'.2)⟩))
end
end Go.Proofs.YtjpkodllemoniaaDoor.Sr
namespace Go.Proofs.YtjpkodllemoniaaDoor.Sr
open Go.RowKit Go.Deep
set_option linter.unusedVariables false
set_option linter.unusedSimpArgs false
set_option maxHeartbeats 8000000
set_option maxRecDepth 100000
attribute [local go_sem ↓] Go.wp_at_zero Go.wp_at_succ
theorem pdq_so (g cap n : Nat) (hn : n ≤ 1152921504606846976) : ∀ (m : Nat) (l0 : List Int) (a b : Nat) (lim : Int) (w0 : World), b - a ≤ m → Uz w0 g n l0 → a ≤ b → b ≤ n → Go.Sort.Below lt a b l0.toArray → -9223372036854775808 ≤ lim → lim < 9223372036854775808 →
    Calls Tryd.prog 55 #[.slice (some ⟨g, 0, none⟩) n cap, .int .i64 a, .int .i64 b, .int .i64 lim] w0 fun e w' => e = .returned (.tuple #[]) ∧ Sp w0 w' g n (Dn a b l0) := by
  intro m
  induction m using Nat.strongRecOn with
  | ind m ih =>
  intro l0 a0 b0 lim w0 hm h hab hbn hBl hl0 hl1
  have HS0 := hid (h.sp (F := Iv a0 b0 l0 a0 b0) ⟨hBl, fun R r1 r2 => ⟨r1, r2⟩⟩)
  have IH := hid ih
  clear ih h hBl
  go_enter Tryd.func55, Tryd.ntmps55
  go_upto_region 2 with fail
  go_loopw [1, 2, 3, 8, 9] (fun av bv lv pv qv wr => ∃ (a b : Nat) (lim : Int) (p q : Bool), av = .int .i64 a ∧ bv = .int .i64 b ∧ lv = .int .i64 lim ∧ pv = .bool p ∧ qv = .bool q ∧ a ≤ b ∧ b ≤ n ∧ b - a ≤ m ∧ -9223372036854775808 ≤ lim ∧ lim < 9223372036854775808 ∧ Hid (Sp w0 wr g n (Iv a0 b0 l0 a b))) (fun av bv _ _ _ _ => (intOf bv - intOf av).toNat)
  case atStart => exact ⟨a0, b0, lim, true, true, rfl, rfl, rfl, rfl, rfl, hab, hbn, hm, hl0, hl1, HS0⟩
  case round =>
    clear HS0 hm hab hbn hl0 hl1
    obtain ⟨a, b, lim, p, q, rfl, rfl, rfl, rfl, rfl, hab, hbn, hm, hl0, hl1, HS⟩ := hrel
    obtain ⟨L, hL⟩ : ∃ L, L = b - a := ⟨_, rfl⟩
    have wL : IntKind.i64.wrap ((b : Int) - (a : Int)) = (L : Int) := by rw [IntKind.wrap_i64]; omega
    have HL := hid hL
    clear hL
    by_cases h12 : L ≤ 12
    · have i12 : (L : Int) ≤ 12 := by omega
      have C1 := hid (insT (cap := cap) HS.out hab hbn hn)
      go_wp2_with (go_at_call 57; with_reducible refine (C1.out).mono ?_; rintro e v1 ⟨rfl, HS1⟩)
      try simp only [Exit.inBlock, Exit.then]
      refine bodyPost_ret (results_none rfl _ _ _) rfl ?_
      exact ⟨rfl, HS1.out⟩
    · have i12 : ¬ (L : Int) ≤ 12 := by omega
      have d12 : decide ((L : Int) ≤ 12) = false := decide_eq_false i12
      by_cases hz : lim = 0
      · subst hz
        have C1 := hid (heapT (cap := cap) HS.out hab hbn hn)
        go_wp2_with (go_at_call 58; with_reducible refine (C1.out).mono ?_; rintro e v1 ⟨rfl, HS1⟩)
        try simp only [Exit.inBlock, Exit.then]
        refine bodyPost_ret (results_none rfl _ _ _) rfl ?_
        exact ⟨rfl, HS1.out⟩
      · have ez : (lim == 0) = false := by simp [hz]
        clear hz
        cases p with
        | true =>
          have C2 := hid (pivT (cap := cap) HS.out (a := a) (b := b) (by have := HL.out; omega) hbn hn)
          go_upto_region 11 with (go_at_call 60; with_reducible refine (C2.out).mono ?_; rintro e v2 ⟨pv, t, rfl, HPV, HS2⟩)
          by_cases ht2 : t = 2
          · subst ht2
            have C3 := hid (revT (cap := cap) HS2.out hab hbn hn)
            obtain ⟨b1, hb1⟩ : ∃ x, b = x + 1 := ⟨b - 1, by have := HL.out; omega⟩
            obtain ⟨pa, hpa⟩ : ∃ x, x = pv - a := ⟨_, rfl⟩
            obtain ⟨pw, hpw⟩ : ∃ x, x = b1 - pa := ⟨_, rfl⟩
            have wb1 : IntKind.i64.wrap ((b : Int) - 1) = (b1 : Int) := by rw [IntKind.wrap_i64]; omega
            have wpa : IntKind.i64.wrap ((pv : Int) - (a : Int)) = (pa : Int) := by rw [IntKind.wrap_i64]; have := HPV.out; omega
            have wpw : IntKind.i64.wrap ((b1 : Int) - (pa : Int)) = (pw : Int) := by rw [IntKind.wrap_i64]; have := HPV.out; omega
            have HPV := hid (show a ≤ pw ∧ pw < b from by have := HPV.out; omega)
            clear hb1 hpa hpw
            go_upto_region 15 with (go_at_call 61; with_reducible refine (C3.out).mono ?_; rintro e v3 ⟨rfl, HS3⟩)
            cases q with
            | false =>
              have HS := HS3
              obtain ⟨c, hc⟩ : ∃ c, c = a - 1 := ⟨_, rfl⟩
              have HCA := hid hc
              clear hc
              have pv1 : pw < n := by have := HPV.out; omega
              go_upto_region 17 with fail
              refine reg_any3 [73, 74, 75, 76, 77, 78, 79, 80, 81, 82, 83, 84, 85, 86, 87] (fun t X => Hid (∃ β : Bool, t 87 = .bool β ∧ (β = true → (True) ∧ Sp w0 X g n (fun l => Iv a0 b0 l0 a b l ∧ Ge a pw l)) ∧ (β = false → Sp w0 X g n (Iv a0 b0 l0 a b)))) ?_ ?_
              · by_cases hle : 0 < a
                · have ile : (0 : Int) < (a : Int) := by omega
                  obtain ⟨l, p1, u1, k1⟩ := HS.out
                  have U1 := hid u1
                  have K1 := hid k1
                  have HP := hid (show (((!decide (gd l c < gd l pw))) = true → (fun l => Iv a0 b0 l0 a b l ∧ Ge a pw l) l) ∧ (((!decide (gd l c < gd l pw))) = false → (Iv a0 b0 l0 a b) l) from ⟨fun e => ⟨p1, hle, by have e1 := not_t e; rw [HCA.out] at e1; exact e1⟩, fun _ => p1⟩)
                  obtain ⟨y, hy⟩ : ∃ y, gd l c = y := ⟨_, rfl⟩
                  have cy : v3.cell? ⟨g, c, none⟩ = some (.int .u64 y) := by rw [← hy]; exact u1.cell (by have := HCA.out; omega)
                  rw [hy] at HP
                  clear hy
                  obtain ⟨z, hz⟩ : ∃ y, gd l pw = y := ⟨_, rfl⟩
                  have cz : v3.cell? ⟨g, pw, none⟩ = some (.int .u64 z) := by rw [← hz]; exact u1.cell pv1
                  rw [hz] at HP
                  clear hz
                  clear p1 u1 k1
                  have wc : IntKind.i64.wrap ((a : Int) - 1) = (c : Int) := (by rw [IntKind.wrap_i64]; have := HCA.out; omega)
                  have cc0 : (0 : Int) ≤ (c : Int) := (by omega)
                  have cc2 : (c : Int) < (n : Int) := (by have := HCA.out; omega)
                  have pp0 : (0 : Int) ≤ (pw : Int) := (by omega)
                  have pp2 : (pw : Int) < (n : Int) := (by omega)
                  have HLE := hid hle
                  have ilT : decide (0 < a) = true := decide_eq_true hle
                  go_quiet (first | (go_at_call 63; with_reducible exact Calls.quiet_of_same (less_any _ _ _)))
                  exact ⟨by kernel_rfl, hid ⟨_, by rfl, fun hb => ⟨trivial, l, HP.out.1 hb, U1.out.same (w' := v3.drewN nq) rfl, K1.out.trans (Kp.drewN _ v3 nq) (fun _ _ e => e)⟩, fun hb => ⟨l, HP.out.2 hb, U1.out.same (w' := v3.drewN nq) rfl, K1.out.trans (Kp.drewN _ v3 nq) (fun _ _ e => e)⟩⟩⟩
                · have HPN := hid (HS.out.mono (G := Iv a0 b0 l0 a b) (fun l _ hl => hl))
                  have ilN : decide (0 < a) = false := decide_eq_false hle
                  have ile' : ¬ (0 : Int) < (a : Int) := by omega
                  have ile : decide ((0 : Int) < (a : Int)) = false := decide_eq_false (by omega)
                  go_quiet (first | (go_at_call 63; with_reducible exact Calls.quiet_of_same (less_any _ _ _)))
                  exact ⟨by kernel_rfl, hid ⟨false, by rfl, (fun e => by cases e), fun _ => HPN.out.drewN nq⟩⟩
              · rintro t X HB
                obtain ⟨β, eβ, hβ, hγ⟩ := HB.out
                simp only [puts, List.foldl_cons, List.foldl_nil, Act.put, List.setIfInBounds_toArray, List.set_cons_zero, List.set_cons_succ]
                rw [eβ]
                clear eβ HB
                cases β with
                | true =>
                  have HSX := hid (hβ rfl).2
                  clear hβ hγ
                  have C5 := hid (peqT (cap := cap) HSX.out (a := a) (b := b) (p := pw) HPV.out.1 HPV.out.2 hbn hn)
                  go_wp2_with (go_at_call 64; with_reducible refine (C5.out).mono ?_; rintro e v5 ⟨mid, rfl, HM5, HS5⟩)
                  go_roundw
                  case rel => exact ⟨mid, b, _, _, _, rfl, rfl, rfl, rfl, rfl, by have := HM5.out; omega, hbn, by have := HM5.out; omega, by omega, by omega, HS5⟩
                  case measure => have := HM5.out; first | (simp [intOf]; done) | (simp [intOf]; omega)
                | false =>
                  have HSX := hid (hγ rfl)
                  clear hβ hγ
                  have C5 := hid (partT (cap := cap) HSX.out (a := a) (b := b) (p := pw) HPV.out.1 HPV.out.2 hbn hn)
                  go_upto_region 21 with (go_at_call 65; with_reducible refine (C5.out).mono ?_; rintro e v5 ⟨mid, r5, rfl, HM5, HS5⟩)
                  obtain ⟨lf, hlf⟩ : ∃ x, x = mid - a := ⟨_, rfl⟩
                  obtain ⟨rt, hrt⟩ : ∃ x, x = b - mid := ⟨_, rfl⟩
                  obtain ⟨th, hth⟩ : ∃ x, x = L / 8 := ⟨_, rfl⟩
                  obtain ⟨m1, hm1⟩ : ∃ x, x = mid + 1 := ⟨_, rfl⟩
                  have wlf : IntKind.i64.wrap ((mid : Int) - (a : Int)) = (lf : Int) := by rw [IntKind.wrap_i64]; have := HM5.out; omega
                  have wrt : IntKind.i64.wrap ((b : Int) - (mid : Int)) = (rt : Int) := by rw [IntKind.wrap_i64]; have := HM5.out; omega
                  have tth : ((L : Int)).tdiv 8 = (th : Int) := by rw [Int.tdiv_eq_ediv_of_nonneg (by omega)]; omega
                  have wth : IntKind.i64.wrap (th : Int) = (th : Int) := by rw [IntKind.wrap_i64]; have := HL.out; omega
                  have wm1 : IntKind.i64.wrap ((mid : Int) + 1) = (m1 : Int) := by rw [IntKind.wrap_i64]; have := HM5.out; omega
                  have HE5 := hid (show lf = mid - a ∧ rt = b - mid ∧ m1 = mid + 1 from ⟨hlf, hrt, hm1⟩)
                  clear hlf hrt hth hm1
                  by_cases hlr : lf < rt
                  · have ilr : (lf : Int) < (rt : Int) := by omega
                    have C6 := hid (leftT (cap := cap) (lim := lim) HE5.out.2.2 HS5.out (fun l hl hB => IH.out (mid - a) (by have := HM5.out; omega) l a mid lim v5 (Nat.le_refl _) hl HM5.out.1 (by have := HM5.out; omega) hB (by omega) (by omega)))
                    go_wp2_with (go_at_call 55; with_reducible refine (C6.out).mono ?_; rintro e v6 ⟨rfl, HS6⟩)
                    go_roundw
                    case rel => exact ⟨m1, b, _, _, _, rfl, rfl, rfl, rfl, rfl, by have := HM5.out; have := HE5.out; omega, hbn, by have := HM5.out; have := HE5.out; omega, by omega, by omega, HS6⟩
                    case measure => have := HM5.out; have := HE5.out; first | (simp [intOf]; done) | (simp [intOf]; omega)
                  · have ilr : ¬ (lf : Int) < (rt : Int) := by omega
                    have dlr : decide ((lf : Int) < (rt : Int)) = false := decide_eq_false ilr
                    have C6 := hid (rightT (cap := cap) (lim := lim) HE5.out.2.2 HS5.out (fun l hl hB => IH.out (b - m1) (by have := HM5.out; have := HE5.out; omega) l m1 b lim v5 (Nat.le_refl _) hl (by have := HM5.out; have := HE5.out; omega) hbn hB (by omega) (by omega)))
                    go_wp2_with (go_at_call 55; with_reducible refine (C6.out).mono ?_; rintro e v6 ⟨rfl, HS6⟩)
                    go_roundw
                    case rel => exact ⟨a, mid, _, _, _, rfl, rfl, rfl, rfl, rfl, by have := HM5.out; omega, by have := HM5.out; omega, by have := HM5.out; omega, by omega, by omega, HS6⟩
                    case measure => have := HM5.out; first | (simp [intOf]; done) | (simp [intOf]; omega)
            | true =>
              have C4t := hid (pinsT (cap := cap) HS3.out (a := a) (b := b) (by have := HL.out; omega) hbn hn)
              go_upto_region 17 with (go_at_call 62; with_reducible refine (C4t.out).mono ?_; rintro e v4 ⟨r4, rfl, HS4⟩; cases r4)
              rotate_left
              · try simp only [Exit.inBlock, Exit.then]
                refine bodyPost_ret (results_none rfl _ _ _) rfl ?_
                exact ⟨rfl, HS4.out.1 (by first | rfl | trivial)⟩
              have HS4x := hid (HS4.out.2 (by first | rfl | trivial))
              clear HS4
              have HS := HS4x
              obtain ⟨c, hc⟩ : ∃ c, c = a - 1 := ⟨_, rfl⟩
              have HCA := hid hc
              clear hc
              have pv1 : pw < n := by have := HPV.out; omega
              go_upto_region 17 with fail
              refine reg_any3 [73, 74, 75, 76, 77, 78, 79, 80, 81, 82, 83, 84, 85, 86, 87] (fun t X => Hid (∃ β : Bool, t 87 = .bool β ∧ (β = true → (True) ∧ Sp w0 X g n (fun l => Iv a0 b0 l0 a b l ∧ Ge a pw l)) ∧ (β = false → Sp w0 X g n (Iv a0 b0 l0 a b)))) ?_ ?_
              · by_cases hle : 0 < a
                · have ile : (0 : Int) < (a : Int) := by omega
                  obtain ⟨l, p1, u1, k1⟩ := HS.out
                  have U1 := hid u1
                  have K1 := hid k1
                  have HP := hid (show (((!decide (gd l c < gd l pw))) = true → (fun l => Iv a0 b0 l0 a b l ∧ Ge a pw l) l) ∧ (((!decide (gd l c < gd l pw))) = false → (Iv a0 b0 l0 a b) l) from ⟨fun e => ⟨p1, hle, by have e1 := not_t e; rw [HCA.out] at e1; exact e1⟩, fun _ => p1⟩)
                  obtain ⟨y, hy⟩ : ∃ y, gd l c = y := ⟨_, rfl⟩
                  have cy : v4.cell? ⟨g, c, none⟩ = some (.int .u64 y) := by rw [← hy]; exact u1.cell (by have := HCA.out; omega)
                  rw [hy] at HP
                  clear hy
                  obtain ⟨z, hz⟩ : ∃ y, gd l pw = y := ⟨_, rfl⟩
                  have cz : v4.cell? ⟨g, pw, none⟩ = some (.int .u64 z) := by rw [← hz]; exact u1.cell pv1
                  rw [hz] at HP
                  clear hz
                  clear p1 u1 k1
                  have wc : IntKind.i64.wrap ((a : Int) - 1) = (c : Int) := (by rw [IntKind.wrap_i64]; have := HCA.out; omega)
                  have cc0 : (0 : Int) ≤ (c : Int) := (by omega)
                  have cc2 : (c : Int) < (n : Int) := (by have := HCA.out; omega)
                  have pp0 : (0 : Int) ≤ (pw : Int) := (by omega)
                  have pp2 : (pw : Int) < (n : Int) := (by omega)
                  have HLE := hid hle
                  have ilT : decide (0 < a) = true := decide_eq_true hle
                  go_quiet (first | (go_at_call 63; with_reducible exact Calls.quiet_of_same (less_any _ _ _)))
                  exact ⟨by kernel_rfl, hid ⟨_, by rfl, fun hb => ⟨trivial, l, HP.out.1 hb, U1.out.same (w' := v4.drewN nq) rfl, K1.out.trans (Kp.drewN _ v4 nq) (fun _ _ e => e)⟩, fun hb => ⟨l, HP.out.2 hb, U1.out.same (w' := v4.drewN nq) rfl, K1.out.trans (Kp.drewN _ v4 nq) (fun _ _ e => e)⟩⟩⟩
                · have HPN := hid (HS.out.mono (G := Iv a0 b0 l0 a b) (fun l _ hl => hl))
                  have ilN : decide (0 < a) = false := decide_eq_false hle
                  have ile' : ¬ (0 : Int) < (a : Int) := by omega
                  have ile : decide ((0 : Int) < (a : Int)) = false := decide_eq_false (by omega)
                  go_quiet (first | (go_at_call 63; with_reducible exact Calls.quiet_of_same (less_any _ _ _)))
                  exact ⟨by kernel_rfl, hid ⟨false, by rfl, (fun e => by cases e), fun _ => HPN.out.drewN nq⟩⟩
              · rintro t X HB
                obtain ⟨β, eβ, hβ, hγ⟩ := HB.out
                simp only [puts, List.foldl_cons, List.foldl_nil, Act.put, List.setIfInBounds_toArray, List.set_cons_zero, List.set_cons_succ]
                rw [eβ]
                clear eβ HB
                cases β with
                | true =>
                  have HSX := hid (hβ rfl).2
                  clear hβ hγ
                  have C5 := hid (peqT (cap := cap) HSX.out (a := a) (b := b) (p := pw) HPV.out.1 HPV.out.2 hbn hn)
                  go_wp2_with (go_at_call 64; with_reducible refine (C5.out).mono ?_; rintro e v5 ⟨mid, rfl, HM5, HS5⟩)
                  go_roundw
                  case rel => exact ⟨mid, b, _, _, _, rfl, rfl, rfl, rfl, rfl, by have := HM5.out; omega, hbn, by have := HM5.out; omega, by omega, by omega, HS5⟩
                  case measure => have := HM5.out; first | (simp [intOf]; done) | (simp [intOf]; omega)
                | false =>
                  have HSX := hid (hγ rfl)
                  clear hβ hγ
                  have C5 := hid (partT (cap := cap) HSX.out (a := a) (b := b) (p := pw) HPV.out.1 HPV.out.2 hbn hn)
                  go_upto_region 21 with (go_at_call 65; with_reducible refine (C5.out).mono ?_; rintro e v5 ⟨mid, r5, rfl, HM5, HS5⟩)
                  obtain ⟨lf, hlf⟩ : ∃ x, x = mid - a := ⟨_, rfl⟩
                  obtain ⟨rt, hrt⟩ : ∃ x, x = b - mid := ⟨_, rfl⟩
                  obtain ⟨th, hth⟩ : ∃ x, x = L / 8 := ⟨_, rfl⟩
                  obtain ⟨m1, hm1⟩ : ∃ x, x = mid + 1 := ⟨_, rfl⟩
                  have wlf : IntKind.i64.wrap ((mid : Int) - (a : Int)) = (lf : Int) := by rw [IntKind.wrap_i64]; have := HM5.out; omega
                  have wrt : IntKind.i64.wrap ((b : Int) - (mid : Int)) = (rt : Int) := by rw [IntKind.wrap_i64]; have := HM5.out; omega
                  have tth : ((L : Int)).tdiv 8 = (th : Int) := by rw [Int.tdiv_eq_ediv_of_nonneg (by omega)]; omega
                  have wth : IntKind.i64.wrap (th : Int) = (th : Int) := by rw [IntKind.wrap_i64]; have := HL.out; omega
                  have wm1 : IntKind.i64.wrap ((mid : Int) + 1) = (m1 : Int) := by rw [IntKind.wrap_i64]; have := HM5.out; omega
                  have HE5 := hid (show lf = mid - a ∧ rt = b - mid ∧ m1 = mid + 1 from ⟨hlf, hrt, hm1⟩)
                  clear hlf hrt hth hm1
                  by_cases hlr : lf < rt
                  · have ilr : (lf : Int) < (rt : Int) := by omega
                    have C6 := hid (leftT (cap := cap) (lim := lim) HE5.out.2.2 HS5.out (fun l hl hB => IH.out (mid - a) (by have := HM5.out; omega) l a mid lim v5 (Nat.le_refl _) hl HM5.out.1 (by have := HM5.out; omega) hB (by omega) (by omega)))
                    go_wp2_with (go_at_call 55; with_reducible refine (C6.out).mono ?_; rintro e v6 ⟨rfl, HS6⟩)
                    go_roundw
                    case rel => exact ⟨m1, b, _, _, _, rfl, rfl, rfl, rfl, rfl, by have := HM5.out; have := HE5.out; omega, hbn, by have := HM5.out; have := HE5.out; omega, by omega, by omega, HS6⟩
                    case measure => have := HM5.out; have := HE5.out; first | (simp [intOf]; done) | (simp [intOf]; omega)
                  · have ilr : ¬ (lf : Int) < (rt : Int) := by omega
                    have dlr : decide ((lf : Int) < (rt : Int)) = false := decide_eq_false ilr
                    have C6 := hid (rightT (cap := cap) (lim := lim) HE5.out.2.2 HS5.out (fun l hl hB => IH.out (b - m1) (by have := HM5.out; have := HE5.out; omega) l m1 b lim v5 (Nat.le_refl _) hl (by have := HM5.out; have := HE5.out; omega) hbn hB (by omega) (by omega)))
                    go_wp2_with (go_at_call 55; with_reducible refine (C6.out).mono ?_; rintro e v6 ⟨rfl, HS6⟩)
                    go_roundw
                    case rel => exact ⟨a, mid, _, _, _, rfl, rfl, rfl, rfl, rfl, by have := HM5.out; omega, by have := HM5.out; omega, by have := HM5.out; omega, by omega, by omega, HS6⟩
                    case measure => have := HM5.out; first | (simp [intOf]; done) | (simp [intOf]; omega)
          · have et2 : (t == 2) = false := by simp [ht2]
            clear ht2
            cases q with
            | false =>
              have HS := HS2
              obtain ⟨c, hc⟩ : ∃ c, c = a - 1 := ⟨_, rfl⟩
              have HCA := hid hc
              clear hc
              have pv1 : pv < n := by have := HPV.out; omega
              go_upto_region 17 with fail
              refine reg_any3 [73, 74, 75, 76, 77, 78, 79, 80, 81, 82, 83, 84, 85, 86, 87] (fun t X => Hid (∃ β : Bool, t 87 = .bool β ∧ (β = true → (True) ∧ Sp w0 X g n (fun l => Iv a0 b0 l0 a b l ∧ Ge a pv l)) ∧ (β = false → Sp w0 X g n (Iv a0 b0 l0 a b)))) ?_ ?_
              · by_cases hle : 0 < a
                · have ile : (0 : Int) < (a : Int) := by omega
                  obtain ⟨l, p1, u1, k1⟩ := HS.out
                  have U1 := hid u1
                  have K1 := hid k1
                  have HP := hid (show (((!decide (gd l c < gd l pv))) = true → (fun l => Iv a0 b0 l0 a b l ∧ Ge a pv l) l) ∧ (((!decide (gd l c < gd l pv))) = false → (Iv a0 b0 l0 a b) l) from ⟨fun e => ⟨p1, hle, by have e1 := not_t e; rw [HCA.out] at e1; exact e1⟩, fun _ => p1⟩)
                  obtain ⟨y, hy⟩ : ∃ y, gd l c = y := ⟨_, rfl⟩
                  have cy : v2.cell? ⟨g, c, none⟩ = some (.int .u64 y) := by rw [← hy]; exact u1.cell (by have := HCA.out; omega)
                  rw [hy] at HP
                  clear hy
                  obtain ⟨z, hz⟩ : ∃ y, gd l pv = y := ⟨_, rfl⟩
                  have cz : v2.cell? ⟨g, pv, none⟩ = some (.int .u64 z) := by rw [← hz]; exact u1.cell pv1
                  rw [hz] at HP
                  clear hz
                  clear p1 u1 k1
                  have wc : IntKind.i64.wrap ((a : Int) - 1) = (c : Int) := (by rw [IntKind.wrap_i64]; have := HCA.out; omega)
                  have cc0 : (0 : Int) ≤ (c : Int) := (by omega)
                  have cc2 : (c : Int) < (n : Int) := (by have := HCA.out; omega)
                  have pp0 : (0 : Int) ≤ (pv : Int) := (by omega)
                  have pp2 : (pv : Int) < (n : Int) := (by omega)
                  have HLE := hid hle
                  have ilT : decide (0 < a) = true := decide_eq_true hle
                  go_quiet (first | (go_at_call 63; with_reducible exact Calls.quiet_of_same (less_any _ _ _)))
                  exact ⟨by kernel_rfl, hid ⟨_, by rfl, fun hb => ⟨trivial, l, HP.out.1 hb, U1.out.same (w' := v2.drewN nq) rfl, K1.out.trans (Kp.drewN _ v2 nq) (fun _ _ e => e)⟩, fun hb => ⟨l, HP.out.2 hb, U1.out.same (w' := v2.drewN nq) rfl, K1.out.trans (Kp.drewN _ v2 nq) (fun _ _ e => e)⟩⟩⟩
                · have HPN := hid (HS.out.mono (G := Iv a0 b0 l0 a b) (fun l _ hl => hl))
                  have ilN : decide (0 < a) = false := decide_eq_false hle
                  have ile' : ¬ (0 : Int) < (a : Int) := by omega
                  have ile : decide ((0 : Int) < (a : Int)) = false := decide_eq_false (by omega)
                  go_quiet (first | (go_at_call 63; with_reducible exact Calls.quiet_of_same (less_any _ _ _)))
                  exact ⟨by kernel_rfl, hid ⟨false, by rfl, (fun e => by cases e), fun _ => HPN.out.drewN nq⟩⟩
              · rintro t X HB
                obtain ⟨β, eβ, hβ, hγ⟩ := HB.out
                simp only [puts, List.foldl_cons, List.foldl_nil, Act.put, List.setIfInBounds_toArray, List.set_cons_zero, List.set_cons_succ]
                rw [eβ]
                clear eβ HB
                cases β with
                | true =>
                  have HSX := hid (hβ rfl).2
                  clear hβ hγ
                  have C5 := hid (peqT (cap := cap) HSX.out (a := a) (b := b) (p := pv) HPV.out.1 HPV.out.2 hbn hn)
                  go_wp2_with (go_at_call 64; with_reducible refine (C5.out).mono ?_; rintro e v5 ⟨mid, rfl, HM5, HS5⟩)
                  go_roundw
                  case rel => exact ⟨mid, b, _, _, _, rfl, rfl, rfl, rfl, rfl, by have := HM5.out; omega, hbn, by have := HM5.out; omega, by omega, by omega, HS5⟩
                  case measure => have := HM5.out; first | (simp [intOf]; done) | (simp [intOf]; omega)
                | false =>
                  have HSX := hid (hγ rfl)
                  clear hβ hγ
                  have C5 := hid (partT (cap := cap) HSX.out (a := a) (b := b) (p := pv) HPV.out.1 HPV.out.2 hbn hn)
                  go_upto_region 21 with (go_at_call 65; with_reducible refine (C5.out).mono ?_; rintro e v5 ⟨mid, r5, rfl, HM5, HS5⟩)
                  obtain ⟨lf, hlf⟩ : ∃ x, x = mid - a := ⟨_, rfl⟩
                  obtain ⟨rt, hrt⟩ : ∃ x, x = b - mid := ⟨_, rfl⟩
                  obtain ⟨th, hth⟩ : ∃ x, x = L / 8 := ⟨_, rfl⟩
                  obtain ⟨m1, hm1⟩ : ∃ x, x = mid + 1 := ⟨_, rfl⟩
                  have wlf : IntKind.i64.wrap ((mid : Int) - (a : Int)) = (lf : Int) := by rw [IntKind.wrap_i64]; have := HM5.out; omega
                  have wrt : IntKind.i64.wrap ((b : Int) - (mid : Int)) = (rt : Int) := by rw [IntKind.wrap_i64]; have := HM5.out; omega
                  have tth : ((L : Int)).tdiv 8 = (th : Int) := by rw [Int.tdiv_eq_ediv_of_nonneg (by omega)]; omega
                  have wth : IntKind.i64.wrap (th : Int) = (th : Int) := by rw [IntKind.wrap_i64]; have := HL.out; omega
                  have wm1 : IntKind.i64.wrap ((mid : Int) + 1) = (m1 : Int) := by rw [IntKind.wrap_i64]; have := HM5.out; omega
                  have HE5 := hid (show lf = mid - a ∧ rt = b - mid ∧ m1 = mid + 1 from ⟨hlf, hrt, hm1⟩)
                  clear hlf hrt hth hm1
                  by_cases hlr : lf < rt
                  · have ilr : (lf : Int) < (rt : Int) := by omega
                    have C6 := hid (leftT (cap := cap) (lim := lim) HE5.out.2.2 HS5.out (fun l hl hB => IH.out (mid - a) (by have := HM5.out; omega) l a mid lim v5 (Nat.le_refl _) hl HM5.out.1 (by have := HM5.out; omega) hB (by omega) (by omega)))
                    go_wp2_with (go_at_call 55; with_reducible refine (C6.out).mono ?_; rintro e v6 ⟨rfl, HS6⟩)
                    go_roundw
                    case rel => exact ⟨m1, b, _, _, _, rfl, rfl, rfl, rfl, rfl, by have := HM5.out; have := HE5.out; omega, hbn, by have := HM5.out; have := HE5.out; omega, by omega, by omega, HS6⟩
                    case measure => have := HM5.out; have := HE5.out; first | (simp [intOf]; done) | (simp [intOf]; omega)
                  · have ilr : ¬ (lf : Int) < (rt : Int) := by omega
                    have dlr : decide ((lf : Int) < (rt : Int)) = false := decide_eq_false ilr
                    have C6 := hid (rightT (cap := cap) (lim := lim) HE5.out.2.2 HS5.out (fun l hl hB => IH.out (b - m1) (by have := HM5.out; have := HE5.out; omega) l m1 b lim v5 (Nat.le_refl _) hl (by have := HM5.out; have := HE5.out; omega) hbn hB (by omega) (by omega)))
                    go_wp2_with (go_at_call 55; with_reducible refine (C6.out).mono ?_; rintro e v6 ⟨rfl, HS6⟩)
                    go_roundw
                    case rel => exact ⟨a, mid, _, _, _, rfl, rfl, rfl, rfl, rfl, by have := HM5.out; omega, by have := HM5.out; omega, by have := HM5.out; omega, by omega, by omega, HS6⟩
                    case measure => have := HM5.out; first | (simp [intOf]; done) | (simp [intOf]; omega)
            | true =>
              by_cases ht1 : t = 1
              · subst ht1
                have C4t := hid (pinsT (cap := cap) HS2.out (a := a) (b := b) (by have := HL.out; omega) hbn hn)
                go_upto_region 17 with (go_at_call 62; with_reducible refine (C4t.out).mono ?_; rintro e v4 ⟨r4, rfl, HS4⟩; cases r4)
                rotate_left
                · try simp only [Exit.inBlock, Exit.then]
                  refine bodyPost_ret (results_none rfl _ _ _) rfl ?_
                  exact ⟨rfl, HS4.out.1 (by first | rfl | trivial)⟩
                have HS4x := hid (HS4.out.2 (by first | rfl | trivial))
                clear HS4
                have HS := HS4x
                obtain ⟨c, hc⟩ : ∃ c, c = a - 1 := ⟨_, rfl⟩
                have HCA := hid hc
                clear hc
                have pv1 : pv < n := by have := HPV.out; omega
                go_upto_region 17 with fail
                refine reg_any3 [73, 74, 75, 76, 77, 78, 79, 80, 81, 82, 83, 84, 85, 86, 87] (fun t X => Hid (∃ β : Bool, t 87 = .bool β ∧ (β = true → (True) ∧ Sp w0 X g n (fun l => Iv a0 b0 l0 a b l ∧ Ge a pv l)) ∧ (β = false → Sp w0 X g n (Iv a0 b0 l0 a b)))) ?_ ?_
                · by_cases hle : 0 < a
                  · have ile : (0 : Int) < (a : Int) := by omega
                    obtain ⟨l, p1, u1, k1⟩ := HS.out
                    have U1 := hid u1
                    have K1 := hid k1
                    have HP := hid (show (((!decide (gd l c < gd l pv))) = true → (fun l => Iv a0 b0 l0 a b l ∧ Ge a pv l) l) ∧ (((!decide (gd l c < gd l pv))) = false → (Iv a0 b0 l0 a b) l) from ⟨fun e => ⟨p1, hle, by have e1 := not_t e; rw [HCA.out] at e1; exact e1⟩, fun _ => p1⟩)
                    obtain ⟨y, hy⟩ : ∃ y, gd l c = y := ⟨_, rfl⟩
                    have cy : v4.cell? ⟨g, c, none⟩ = some (.int .u64 y) := by rw [← hy]; exact u1.cell (by have := HCA.out; omega)
                    rw [hy] at HP
                    clear hy
                    obtain ⟨z, hz⟩ : ∃ y, gd l pv = y := ⟨_, rfl⟩
                    have cz : v4.cell? ⟨g, pv, none⟩ = some (.int .u64 z) := by rw [← hz]; exact u1.cell pv1
                    rw [hz] at HP
                    clear hz
                    clear p1 u1 k1
                    have wc : IntKind.i64.wrap ((a : Int) - 1) = (c : Int) := (by rw [IntKind.wrap_i64]; have := HCA.out; omega)
                    have cc0 : (0 : Int) ≤ (c : Int) := (by omega)
                    have cc2 : (c : Int) < (n : Int) := (by have := HCA.out; omega)
                    have pp0 : (0 : Int) ≤ (pv : Int) := (by omega)
                    have pp2 : (pv : Int) < (n : Int) := (by omega)
                    have HLE := hid hle
                    have ilT : decide (0 < a) = true := decide_eq_true hle
                    go_quiet (first | (go_at_call 63; with_reducible exact Calls.quiet_of_same (less_any _ _ _)))
                    exact ⟨by kernel_rfl, hid ⟨_, by rfl, fun hb => ⟨trivial, l, HP.out.1 hb, U1.out.same (w' := v4.drewN nq) rfl, K1.out.trans (Kp.drewN _ v4 nq) (fun _ _ e => e)⟩, fun hb => ⟨l, HP.out.2 hb, U1.out.same (w' := v4.drewN nq) rfl, K1.out.trans (Kp.drewN _ v4 nq) (fun _ _ e => e)⟩⟩⟩
                  · have HPN := hid (HS.out.mono (G := Iv a0 b0 l0 a b) (fun l _ hl => hl))
                    have ilN : decide (0 < a) = false := decide_eq_false hle
                    have ile' : ¬ (0 : Int) < (a : Int) := by omega
                    have ile : decide ((0 : Int) < (a : Int)) = false := decide_eq_false (by omega)
                    go_quiet (first | (go_at_call 63; with_reducible exact Calls.quiet_of_same (less_any _ _ _)))
                    exact ⟨by kernel_rfl, hid ⟨false, by rfl, (fun e => by cases e), fun _ => HPN.out.drewN nq⟩⟩
                · rintro t X HB
                  obtain ⟨β, eβ, hβ, hγ⟩ := HB.out
                  simp only [puts, List.foldl_cons, List.foldl_nil, Act.put, List.setIfInBounds_toArray, List.set_cons_zero, List.set_cons_succ]
                  rw [eβ]
                  clear eβ HB
                  cases β with
                  | true =>
                    have HSX := hid (hβ rfl).2
                    clear hβ hγ
                    have C5 := hid (peqT (cap := cap) HSX.out (a := a) (b := b) (p := pv) HPV.out.1 HPV.out.2 hbn hn)
                    go_wp2_with (go_at_call 64; with_reducible refine (C5.out).mono ?_; rintro e v5 ⟨mid, rfl, HM5, HS5⟩)
                    go_roundw
                    case rel => exact ⟨mid, b, _, _, _, rfl, rfl, rfl, rfl, rfl, by have := HM5.out; omega, hbn, by have := HM5.out; omega, by omega, by omega, HS5⟩
                    case measure => have := HM5.out; first | (simp [intOf]; done) | (simp [intOf]; omega)
                  | false =>
                    have HSX := hid (hγ rfl)
                    clear hβ hγ
                    have C5 := hid (partT (cap := cap) HSX.out (a := a) (b := b) (p := pv) HPV.out.1 HPV.out.2 hbn hn)
                    go_upto_region 21 with (go_at_call 65; with_reducible refine (C5.out).mono ?_; rintro e v5 ⟨mid, r5, rfl, HM5, HS5⟩)
                    obtain ⟨lf, hlf⟩ : ∃ x, x = mid - a := ⟨_, rfl⟩
                    obtain ⟨rt, hrt⟩ : ∃ x, x = b - mid := ⟨_, rfl⟩
                    obtain ⟨th, hth⟩ : ∃ x, x = L / 8 := ⟨_, rfl⟩
                    obtain ⟨m1, hm1⟩ : ∃ x, x = mid + 1 := ⟨_, rfl⟩
                    have wlf : IntKind.i64.wrap ((mid : Int) - (a : Int)) = (lf : Int) := by rw [IntKind.wrap_i64]; have := HM5.out; omega
                    have wrt : IntKind.i64.wrap ((b : Int) - (mid : Int)) = (rt : Int) := by rw [IntKind.wrap_i64]; have := HM5.out; omega
                    have tth : ((L : Int)).tdiv 8 = (th : Int) := by rw [Int.tdiv_eq_ediv_of_nonneg (by omega)]; omega
                    have wth : IntKind.i64.wrap (th : Int) = (th : Int) := by rw [IntKind.wrap_i64]; have := HL.out; omega
                    have wm1 : IntKind.i64.wrap ((mid : Int) + 1) = (m1 : Int) := by rw [IntKind.wrap_i64]; have := HM5.out; omega
                    have HE5 := hid (show lf = mid - a ∧ rt = b - mid ∧ m1 = mid + 1 from ⟨hlf, hrt, hm1⟩)
                    clear hlf hrt hth hm1
                    by_cases hlr : lf < rt
                    · have ilr : (lf : Int) < (rt : Int) := by omega
                      have C6 := hid (leftT (cap := cap) (lim := lim) HE5.out.2.2 HS5.out (fun l hl hB => IH.out (mid - a) (by have := HM5.out; omega) l a mid lim v5 (Nat.le_refl _) hl HM5.out.1 (by have := HM5.out; omega) hB (by omega) (by omega)))
                      go_wp2_with (go_at_call 55; with_reducible refine (C6.out).mono ?_; rintro e v6 ⟨rfl, HS6⟩)
                      go_roundw
                      case rel => exact ⟨m1, b, _, _, _, rfl, rfl, rfl, rfl, rfl, by have := HM5.out; have := HE5.out; omega, hbn, by have := HM5.out; have := HE5.out; omega, by omega, by omega, HS6⟩
                      case measure => have := HM5.out; have := HE5.out; first | (simp [intOf]; done) | (simp [intOf]; omega)
                    · have ilr : ¬ (lf : Int) < (rt : Int) := by omega
                      have dlr : decide ((lf : Int) < (rt : Int)) = false := decide_eq_false ilr
                      have C6 := hid (rightT (cap := cap) (lim := lim) HE5.out.2.2 HS5.out (fun l hl hB => IH.out (b - m1) (by have := HM5.out; have := HE5.out; omega) l m1 b lim v5 (Nat.le_refl _) hl (by have := HM5.out; have := HE5.out; omega) hbn hB (by omega) (by omega)))
                      go_wp2_with (go_at_call 55; with_reducible refine (C6.out).mono ?_; rintro e v6 ⟨rfl, HS6⟩)
                      go_roundw
                      case rel => exact ⟨a, mid, _, _, _, rfl, rfl, rfl, rfl, rfl, by have := HM5.out; omega, by have := HM5.out; omega, by have := HM5.out; omega, by omega, by omega, HS6⟩
                      case measure => have := HM5.out; first | (simp [intOf]; done) | (simp [intOf]; omega)
              · have et1 : (t == 1) = false := by simp [ht1]
                clear ht1
                have HS := HS2
                obtain ⟨c, hc⟩ : ∃ c, c = a - 1 := ⟨_, rfl⟩
                have HCA := hid hc
                clear hc
                have pv1 : pv < n := by have := HPV.out; omega
                go_upto_region 17 with fail
                refine reg_any3 [73, 74, 75, 76, 77, 78, 79, 80, 81, 82, 83, 84, 85, 86, 87] (fun t X => Hid (∃ β : Bool, t 87 = .bool β ∧ (β = true → (True) ∧ Sp w0 X g n (fun l => Iv a0 b0 l0 a b l ∧ Ge a pv l)) ∧ (β = false → Sp w0 X g n (Iv a0 b0 l0 a b)))) ?_ ?_
                · by_cases hle : 0 < a
                  · have ile : (0 : Int) < (a : Int) := by omega
                    obtain ⟨l, p1, u1, k1⟩ := HS.out
                    have U1 := hid u1
                    have K1 := hid k1
                    have HP := hid (show (((!decide (gd l c < gd l pv))) = true → (fun l => Iv a0 b0 l0 a b l ∧ Ge a pv l) l) ∧ (((!decide (gd l c < gd l pv))) = false → (Iv a0 b0 l0 a b) l) from ⟨fun e => ⟨p1, hle, by have e1 := not_t e; rw [HCA.out] at e1; exact e1⟩, fun _ => p1⟩)
                    obtain ⟨y, hy⟩ : ∃ y, gd l c = y := ⟨_, rfl⟩
                    have cy : v2.cell? ⟨g, c, none⟩ = some (.int .u64 y) := by rw [← hy]; exact u1.cell (by have := HCA.out; omega)
                    rw [hy] at HP
                    clear hy
                    obtain ⟨z, hz⟩ : ∃ y, gd l pv = y := ⟨_, rfl⟩
                    have cz : v2.cell? ⟨g, pv, none⟩ = some (.int .u64 z) := by rw [← hz]; exact u1.cell pv1
                    rw [hz] at HP
                    clear hz
                    clear p1 u1 k1
                    have wc : IntKind.i64.wrap ((a : Int) - 1) = (c : Int) := (by rw [IntKind.wrap_i64]; have := HCA.out; omega)
                    have cc0 : (0 : Int) ≤ (c : Int) := (by omega)
                    have cc2 : (c : Int) < (n : Int) := (by have := HCA.out; omega)
                    have pp0 : (0 : Int) ≤ (pv : Int) := (by omega)
                    have pp2 : (pv : Int) < (n : Int) := (by omega)
                    have HLE := hid hle
                    have ilT : decide (0 < a) = true := decide_eq_true hle
                    go_quiet (first | (go_at_call 63; with_reducible exact Calls.quiet_of_same (less_any _ _ _)))
                    exact ⟨by kernel_rfl, hid ⟨_, by rfl, fun hb => ⟨trivial, l, HP.out.1 hb, U1.out.same (w' := v2.drewN nq) rfl, K1.out.trans (Kp.drewN _ v2 nq) (fun _ _ e => e)⟩, fun hb => ⟨l, HP.out.2 hb, U1.out.same (w' := v2.drewN nq) rfl, K1.out.trans (Kp.drewN _ v2 nq) (fun _ _ e => e)⟩⟩⟩
                  · have HPN := hid (HS.out.mono (G := Iv a0 b0 l0 a b) (fun l _ hl => hl))
                    have ilN : decide (0 < a) = false := decide_eq_false hle
                    have ile' : ¬ (0 : Int) < (a : Int) := by omega
                    have ile : decide ((0 : Int) < (a : Int)) = false := decide_eq_false (by omega)
                    go_quiet (first | (go_at_call 63; with_reducible exact Calls.quiet_of_same (less_any _ _ _)))
                    exact ⟨by kernel_rfl, hid ⟨false, by rfl, (fun e => by cases e), fun _ => HPN.out.drewN nq⟩⟩
                · rintro t X HB
                  obtain ⟨β, eβ, hβ, hγ⟩ := HB.out
                  simp only [puts, List.foldl_cons, List.foldl_nil, Act.put, List.setIfInBounds_toArray, List.set_cons_zero, List.set_cons_succ]
                  rw [eβ]
                  clear eβ HB
                  cases β with
                  | true =>
                    have HSX := hid (hβ rfl).2
                    clear hβ hγ
                    have C5 := hid (peqT (cap := cap) HSX.out (a := a) (b := b) (p := pv) HPV.out.1 HPV.out.2 hbn hn)
                    go_wp2_with (go_at_call 64; with_reducible refine (C5.out).mono ?_; rintro e v5 ⟨mid, rfl, HM5, HS5⟩)
                    go_roundw
                    case rel => exact ⟨mid, b, _, _, _, rfl, rfl, rfl, rfl, rfl, by have := HM5.out; omega, hbn, by have := HM5.out; omega, by omega, by omega, HS5⟩
                    case measure => have := HM5.out; first | (simp [intOf]; done) | (simp [intOf]; omega)
                  | false =>
                    have HSX := hid (hγ rfl)
                    clear hβ hγ
                    have C5 := hid (partT (cap := cap) HSX.out (a := a) (b := b) (p := pv) HPV.out.1 HPV.out.2 hbn hn)
                    go_upto_region 21 with (go_at_call 65; with_reducible refine (C5.out).mono ?_; rintro e v5 ⟨mid, r5, rfl, HM5, HS5⟩)
                    obtain ⟨lf, hlf⟩ : ∃ x, x = mid - a := ⟨_, rfl⟩
                    obtain ⟨rt, hrt⟩ : ∃ x, x = b - mid := ⟨_, rfl⟩
                    obtain ⟨th, hth⟩ : ∃ x, x = L / 8 := ⟨_, rfl⟩
                    obtain ⟨m1, hm1⟩ : ∃ x, x = mid + 1 := ⟨_, rfl⟩
                    have wlf : IntKind.i64.wrap ((mid : Int) - (a : Int)) = (lf : Int) := by rw [IntKind.wrap_i64]; have := HM5.out; omega
                    have wrt : IntKind.i64.wrap ((b : Int) - (mid : Int)) = (rt : Int) := by rw [IntKind.wrap_i64]; have := HM5.out; omega
                    have tth : ((L : Int)).tdiv 8 = (th : Int) := by rw [Int.tdiv_eq_ediv_of_nonneg (by omega)]; omega
                    have wth : IntKind.i64.wrap (th : Int) = (th : Int) := by rw [IntKind.wrap_i64]; have := HL.out; omega
                    have wm1 : IntKind.i64.wrap ((mid : Int) + 1) = (m1 : Int) := by rw [IntKind.wrap_i64]; have := HM5.out; omega
                    have HE5 := hid (show lf = mid - a ∧ rt = b - mid ∧ m1 = mid + 1 from ⟨hlf, hrt, hm1⟩)
                    clear hlf hrt hth hm1
                    by_cases hlr : lf < rt
                    · have ilr : (lf : Int) < (rt : Int) := by omega
                      have C6 := hid (leftT (cap := cap) (lim := lim) HE5.out.2.2 HS5.out (fun l hl hB => IH.out (mid - a) (by have := HM5.out; omega) l a mid lim v5 (Nat.le_refl _) hl HM5.out.1 (by have := HM5.out; omega) hB (by omega) (by omega)))
                      go_wp2_with (go_at_call 55; with_reducible refine (C6.out).mono ?_; rintro e v6 ⟨rfl, HS6⟩)
                      go_roundw
                      case rel => exact ⟨m1, b, _, _, _, rfl, rfl, rfl, rfl, rfl, by have := HM5.out; have := HE5.out; omega, hbn, by have := HM5.out; have := HE5.out; omega, by omega, by omega, HS6⟩
                      case measure => have := HM5.out; have := HE5.out; first | (simp [intOf]; done) | (simp [intOf]; omega)
                    · have ilr : ¬ (lf : Int) < (rt : Int) := by omega
                      have dlr : decide ((lf : Int) < (rt : Int)) = false := decide_eq_false ilr
                      have C6 := hid (rightT (cap := cap) (lim := lim) HE5.out.2.2 HS5.out (fun l hl hB => IH.out (b - m1) (by have := HM5.out; have := HE5.out; omega) l m1 b lim v5 (Nat.le_refl _) hl (by have := HM5.out; have := HE5.out; omega) hbn hB (by omega) (by omega)))
                      go_wp2_with (go_at_call 55; with_reducible refine (C6.out).mono ?_; rintro e v6 ⟨rfl, HS6⟩)
                      go_roundw
                      case rel => exact ⟨a, mid, _, _, _, rfl, rfl, rfl, rfl, rfl, by have := HM5.out; omega, by have := HM5.out; omega, by have := HM5.out; omega, by omega, by omega, HS6⟩
                      case measure => have := HM5.out; first | (simp [intOf]; done) | (simp [intOf]; omega)
        | false =>
          obtain ⟨lim2, hlim2⟩ : ∃ x, IntKind.i64.wrap (lim - 1) = x := ⟨_, rfl⟩
          have hl20 : -9223372036854775808 ≤ lim2 := by rw [← hlim2, IntKind.wrap_i64]; omega
          have hl21 : lim2 < 9223372036854775808 := by rw [← hlim2, IntKind.wrap_i64]; omega
          have C1 := hid (brkT (cap := cap) HS.out hab hbn hn)
          go_upto_region 10 with (go_at_call 59; with_reducible refine (C1.out).mono ?_; rintro e v1 ⟨rfl, HS1⟩)
          clear hlim2 hl0 hl1
          have C2 := hid (pivT (cap := cap) HS1.out (a := a) (b := b) (by have := HL.out; omega) hbn hn)
          go_upto_region 11 with (go_at_call 60; with_reducible refine (C2.out).mono ?_; rintro e v2 ⟨pv, t, rfl, HPV, HS2⟩)
          by_cases ht2 : t = 2
          · subst ht2
            have C3 := hid (revT (cap := cap) HS2.out hab hbn hn)
            obtain ⟨b1, hb1⟩ : ∃ x, b = x + 1 := ⟨b - 1, by have := HL.out; omega⟩
            obtain ⟨pa, hpa⟩ : ∃ x, x = pv - a := ⟨_, rfl⟩
            obtain ⟨pw, hpw⟩ : ∃ x, x = b1 - pa := ⟨_, rfl⟩
            have wb1 : IntKind.i64.wrap ((b : Int) - 1) = (b1 : Int) := by rw [IntKind.wrap_i64]; omega
            have wpa : IntKind.i64.wrap ((pv : Int) - (a : Int)) = (pa : Int) := by rw [IntKind.wrap_i64]; have := HPV.out; omega
            have wpw : IntKind.i64.wrap ((b1 : Int) - (pa : Int)) = (pw : Int) := by rw [IntKind.wrap_i64]; have := HPV.out; omega
            have HPV := hid (show a ≤ pw ∧ pw < b from by have := HPV.out; omega)
            clear hb1 hpa hpw
            go_upto_region 15 with (go_at_call 61; with_reducible refine (C3.out).mono ?_; rintro e v3 ⟨rfl, HS3⟩)
            have HS := HS3
            obtain ⟨c, hc⟩ : ∃ c, c = a - 1 := ⟨_, rfl⟩
            have HCA := hid hc
            clear hc
            have pv1 : pw < n := by have := HPV.out; omega
            go_upto_region 17 with fail
            refine reg_any3 [73, 74, 75, 76, 77, 78, 79, 80, 81, 82, 83, 84, 85, 86, 87] (fun t X => Hid (∃ β : Bool, t 87 = .bool β ∧ (β = true → (True) ∧ Sp w0 X g n (fun l => Iv a0 b0 l0 a b l ∧ Ge a pw l)) ∧ (β = false → Sp w0 X g n (Iv a0 b0 l0 a b)))) ?_ ?_
            · by_cases hle : 0 < a
              · have ile : (0 : Int) < (a : Int) := by omega
                obtain ⟨l, p1, u1, k1⟩ := HS.out
                have U1 := hid u1
                have K1 := hid k1
                have HP := hid (show (((!decide (gd l c < gd l pw))) = true → (fun l => Iv a0 b0 l0 a b l ∧ Ge a pw l) l) ∧ (((!decide (gd l c < gd l pw))) = false → (Iv a0 b0 l0 a b) l) from ⟨fun e => ⟨p1, hle, by have e1 := not_t e; rw [HCA.out] at e1; exact e1⟩, fun _ => p1⟩)
                obtain ⟨y, hy⟩ : ∃ y, gd l c = y := ⟨_, rfl⟩
                have cy : v3.cell? ⟨g, c, none⟩ = some (.int .u64 y) := by rw [← hy]; exact u1.cell (by have := HCA.out; omega)
                rw [hy] at HP
                clear hy
                obtain ⟨z, hz⟩ : ∃ y, gd l pw = y := ⟨_, rfl⟩
                have cz : v3.cell? ⟨g, pw, none⟩ = some (.int .u64 z) := by rw [← hz]; exact u1.cell pv1
                rw [hz] at HP
                clear hz
                clear p1 u1 k1
                have wc : IntKind.i64.wrap ((a : Int) - 1) = (c : Int) := (by rw [IntKind.wrap_i64]; have := HCA.out; omega)
                have cc0 : (0 : Int) ≤ (c : Int) := (by omega)
                have cc2 : (c : Int) < (n : Int) := (by have := HCA.out; omega)
                have pp0 : (0 : Int) ≤ (pw : Int) := (by omega)
                have pp2 : (pw : Int) < (n : Int) := (by omega)
                have HLE := hid hle
                have ilT : decide (0 < a) = true := decide_eq_true hle
                go_quiet (first | (go_at_call 63; with_reducible exact Calls.quiet_of_same (less_any _ _ _)))
                exact ⟨by kernel_rfl, hid ⟨_, by rfl, fun hb => ⟨trivial, l, HP.out.1 hb, U1.out.same (w' := v3.drewN nq) rfl, K1.out.trans (Kp.drewN _ v3 nq) (fun _ _ e => e)⟩, fun hb => ⟨l, HP.out.2 hb, U1.out.same (w' := v3.drewN nq) rfl, K1.out.trans (Kp.drewN _ v3 nq) (fun _ _ e => e)⟩⟩⟩
              · have HPN := hid (HS.out.mono (G := Iv a0 b0 l0 a b) (fun l _ hl => hl))
                have ilN : decide (0 < a) = false := decide_eq_false hle
                have ile' : ¬ (0 : Int) < (a : Int) := by omega
                have ile : decide ((0 : Int) < (a : Int)) = false := decide_eq_false (by omega)
                go_quiet (first | (go_at_call 63; with_reducible exact Calls.quiet_of_same (less_any _ _ _)))
                exact ⟨by kernel_rfl, hid ⟨false, by rfl, (fun e => by cases e), fun _ => HPN.out.drewN nq⟩⟩
            · rintro t X HB
              obtain ⟨β, eβ, hβ, hγ⟩ := HB.out
              simp only [puts, List.foldl_cons, List.foldl_nil, Act.put, List.setIfInBounds_toArray, List.set_cons_zero, List.set_cons_succ]
              rw [eβ]
              clear eβ HB
              cases β with
              | true =>
                have HSX := hid (hβ rfl).2
                clear hβ hγ
                have C5 := hid (peqT (cap := cap) HSX.out (a := a) (b := b) (p := pw) HPV.out.1 HPV.out.2 hbn hn)
                go_wp2_with (go_at_call 64; with_reducible refine (C5.out).mono ?_; rintro e v5 ⟨mid, rfl, HM5, HS5⟩)
                go_roundw
                case rel => exact ⟨mid, b, _, _, _, rfl, rfl, rfl, rfl, rfl, by have := HM5.out; omega, hbn, by have := HM5.out; omega, by omega, by omega, HS5⟩
                case measure => have := HM5.out; first | (simp [intOf]; done) | (simp [intOf]; omega)
              | false =>
                have HSX := hid (hγ rfl)
                clear hβ hγ
                have C5 := hid (partT (cap := cap) HSX.out (a := a) (b := b) (p := pw) HPV.out.1 HPV.out.2 hbn hn)
                go_upto_region 21 with (go_at_call 65; with_reducible refine (C5.out).mono ?_; rintro e v5 ⟨mid, r5, rfl, HM5, HS5⟩)
                obtain ⟨lf, hlf⟩ : ∃ x, x = mid - a := ⟨_, rfl⟩
                obtain ⟨rt, hrt⟩ : ∃ x, x = b - mid := ⟨_, rfl⟩
                obtain ⟨th, hth⟩ : ∃ x, x = L / 8 := ⟨_, rfl⟩
                obtain ⟨m1, hm1⟩ : ∃ x, x = mid + 1 := ⟨_, rfl⟩
                have wlf : IntKind.i64.wrap ((mid : Int) - (a : Int)) = (lf : Int) := by rw [IntKind.wrap_i64]; have := HM5.out; omega
                have wrt : IntKind.i64.wrap ((b : Int) - (mid : Int)) = (rt : Int) := by rw [IntKind.wrap_i64]; have := HM5.out; omega
                have tth : ((L : Int)).tdiv 8 = (th : Int) := by rw [Int.tdiv_eq_ediv_of_nonneg (by omega)]; omega
                have wth : IntKind.i64.wrap (th : Int) = (th : Int) := by rw [IntKind.wrap_i64]; have := HL.out; omega
                have wm1 : IntKind.i64.wrap ((mid : Int) + 1) = (m1 : Int) := by rw [IntKind.wrap_i64]; have := HM5.out; omega
                have HE5 := hid (show lf = mid - a ∧ rt = b - mid ∧ m1 = mid + 1 from ⟨hlf, hrt, hm1⟩)
                clear hlf hrt hth hm1
                by_cases hlr : lf < rt
                · have ilr : (lf : Int) < (rt : Int) := by omega
                  have C6 := hid (leftT (cap := cap) (lim := lim2) HE5.out.2.2 HS5.out (fun l hl hB => IH.out (mid - a) (by have := HM5.out; omega) l a mid lim2 v5 (Nat.le_refl _) hl HM5.out.1 (by have := HM5.out; omega) hB (by omega) (by omega)))
                  go_wp2_with (go_at_call 55; with_reducible refine (C6.out).mono ?_; rintro e v6 ⟨rfl, HS6⟩)
                  go_roundw
                  case rel => exact ⟨m1, b, _, _, _, rfl, rfl, rfl, rfl, rfl, by have := HM5.out; have := HE5.out; omega, hbn, by have := HM5.out; have := HE5.out; omega, by omega, by omega, HS6⟩
                  case measure => have := HM5.out; have := HE5.out; first | (simp [intOf]; done) | (simp [intOf]; omega)
                · have ilr : ¬ (lf : Int) < (rt : Int) := by omega
                  have dlr : decide ((lf : Int) < (rt : Int)) = false := decide_eq_false ilr
                  have C6 := hid (rightT (cap := cap) (lim := lim2) HE5.out.2.2 HS5.out (fun l hl hB => IH.out (b - m1) (by have := HM5.out; have := HE5.out; omega) l m1 b lim2 v5 (Nat.le_refl _) hl (by have := HM5.out; have := HE5.out; omega) hbn hB (by omega) (by omega)))
                  go_wp2_with (go_at_call 55; with_reducible refine (C6.out).mono ?_; rintro e v6 ⟨rfl, HS6⟩)
                  go_roundw
                  case rel => exact ⟨a, mid, _, _, _, rfl, rfl, rfl, rfl, rfl, by have := HM5.out; omega, by have := HM5.out; omega, by have := HM5.out; omega, by omega, by omega, HS6⟩
                  case measure => have := HM5.out; first | (simp [intOf]; done) | (simp [intOf]; omega)
          · have et2 : (t == 2) = false := by simp [ht2]
            clear ht2
            have HS := HS2
            obtain ⟨c, hc⟩ : ∃ c, c = a - 1 := ⟨_, rfl⟩
            have HCA := hid hc
            clear hc
            have pv1 : pv < n := by have := HPV.out; omega
            go_upto_region 17 with fail
            refine reg_any3 [73, 74, 75, 76, 77, 78, 79, 80, 81, 82, 83, 84, 85, 86, 87] (fun t X => Hid (∃ β : Bool, t 87 = .bool β ∧ (β = true → (True) ∧ Sp w0 X g n (fun l => Iv a0 b0 l0 a b l ∧ Ge a pv l)) ∧ (β = false → Sp w0 X g n (Iv a0 b0 l0 a b)))) ?_ ?_
            · by_cases hle : 0 < a
              · have ile : (0 : Int) < (a : Int) := by omega
                obtain ⟨l, p1, u1, k1⟩ := HS.out
                have U1 := hid u1
                have K1 := hid k1
                have HP := hid (show (((!decide (gd l c < gd l pv))) = true → (fun l => Iv a0 b0 l0 a b l ∧ Ge a pv l) l) ∧ (((!decide (gd l c < gd l pv))) = false → (Iv a0 b0 l0 a b) l) from ⟨fun e => ⟨p1, hle, by have e1 := not_t e; rw [HCA.out] at e1; exact e1⟩, fun _ => p1⟩)
                obtain ⟨y, hy⟩ : ∃ y, gd l c = y := ⟨_, rfl⟩
                have cy : v2.cell? ⟨g, c, none⟩ = some (.int .u64 y) := by rw [← hy]; exact u1.cell (by have := HCA.out; omega)
                rw [hy] at HP
                clear hy
                obtain ⟨z, hz⟩ : ∃ y, gd l pv = y := ⟨_, rfl⟩
                have cz : v2.cell? ⟨g, pv, none⟩ = some (.int .u64 z) := by rw [← hz]; exact u1.cell pv1
                rw [hz] at HP
                clear hz
                clear p1 u1 k1
                have wc : IntKind.i64.wrap ((a : Int) - 1) = (c : Int) := (by rw [IntKind.wrap_i64]; have := HCA.out; omega)
                have cc0 : (0 : Int) ≤ (c : Int) := (by omega)
                have cc2 : (c : Int) < (n : Int) := (by have := HCA.out; omega)
                have pp0 : (0 : Int) ≤ (pv : Int) := (by omega)
                have pp2 : (pv : Int) < (n : Int) := (by omega)
                have HLE := hid hle
                have ilT : decide (0 < a) = true := decide_eq_true hle
                go_quiet (first | (go_at_call 63; with_reducible exact Calls.quiet_of_same (less_any _ _ _)))
                exact ⟨by kernel_rfl, hid ⟨_, by rfl, fun hb => ⟨trivial, l, HP.out.1 hb, U1.out.same (w' := v2.drewN nq) rfl, K1.out.trans (Kp.drewN _ v2 nq) (fun _ _ e => e)⟩, fun hb => ⟨l, HP.out.2 hb, U1.out.same (w' := v2.drewN nq) rfl, K1.out.trans (Kp.drewN _ v2 nq) (fun _ _ e => e)⟩⟩⟩
              · have HPN := hid (HS.out.mono (G := Iv a0 b0 l0 a b) (fun l _ hl => hl))
                have ilN : decide (0 < a) = false := decide_eq_false hle
                have ile' : ¬ (0 : Int) < (a : Int) := by omega
                have ile : decide ((0 : Int) < (a : Int)) = false := decide_eq_false (by omega)
                go_quiet (first | (go_at_call 63; with_reducible exact Calls.quiet_of_same (less_any _ _ _)))
                exact ⟨by kernel_rfl, hid ⟨false, by rfl, (fun e => by cases e), fun _ => HPN.out.drewN nq⟩⟩
            · rintro t X HB
              obtain ⟨β, eβ, hβ, hγ⟩ := HB.out
              simp only [puts, List.foldl_cons, List.foldl_nil, Act.put, List.setIfInBounds_toArray, List.set_cons_zero, List.set_cons_succ]
              rw [eβ]
              clear eβ HB
              cases β with
              | true =>
                have HSX := hid (hβ rfl).2
                clear hβ hγ
                have C5 := hid (peqT (cap := cap) HSX.out (a := a) (b := b) (p := pv) HPV.out.1 HPV.out.2 hbn hn)
                go_wp2_with (go_at_call 64; with_reducible refine (C5.out).mono ?_; rintro e v5 ⟨mid, rfl, HM5, HS5⟩)
                go_roundw
                case rel => exact ⟨mid, b, _, _, _, rfl, rfl, rfl, rfl, rfl, by have := HM5.out; omega, hbn, by have := HM5.out; omega, by omega, by omega, HS5⟩
                case measure => have := HM5.out; first | (simp [intOf]; done) | (simp [intOf]; omega)
              | false =>
                have HSX := hid (hγ rfl)
                clear hβ hγ
                have C5 := hid (partT (cap := cap) HSX.out (a := a) (b := b) (p := pv) HPV.out.1 HPV.out.2 hbn hn)
                go_upto_region 21 with (go_at_call 65; with_reducible refine (C5.out).mono ?_; rintro e v5 ⟨mid, r5, rfl, HM5, HS5⟩)
                obtain ⟨lf, hlf⟩ : ∃ x, x = mid - a := ⟨_, rfl⟩
                obtain ⟨rt, hrt⟩ : ∃ x, x = b - mid := ⟨_, rfl⟩
                obtain ⟨th, hth⟩ : ∃ x, x = L / 8 := ⟨_, rfl⟩
                obtain ⟨m1, hm1⟩ : ∃ x, x = mid + 1 := ⟨_, rfl⟩
                have wlf : IntKind.i64.wrap ((mid : Int) - (a : Int)) = (lf : Int) := by rw [IntKind.wrap_i64]; have := HM5.out; omega
                have wrt : IntKind.i64.wrap ((b : Int) - (mid : Int)) = (rt : Int) := by rw [IntKind.wrap_i64]; have := HM5.out; omega
                have tth : ((L : Int)).tdiv 8 = (th : Int) := by rw [Int.tdiv_eq_ediv_of_nonneg (by omega)]; omega
                have wth : IntKind.i64.wrap (th : Int) = (th : Int) := by rw [IntKind.wrap_i64]; have := HL.out; omega
                have wm1 : IntKind.i64.wrap ((mid : Int) + 1) = (m1 : Int) := by rw [IntKind.wrap_i64]; have := HM5.out; omega
                have HE5 := hid (show lf = mid - a ∧ rt = b - mid ∧ m1 = mid + 1 from ⟨hlf, hrt, hm1⟩)
                clear hlf hrt hth hm1
                by_cases hlr : lf < rt
                · have ilr : (lf : Int) < (rt : Int) := by omega
                  have C6 := hid (leftT (cap := cap) (lim := lim2) HE5.out.2.2 HS5.out (fun l hl hB => IH.out (mid - a) (by have := HM5.out; omega) l a mid lim2 v5 (Nat.le_refl _) hl HM5.out.1 (by have := HM5.out; omega) hB (by omega) (by omega)))
                  go_wp2_with (go_at_call 55; with_reducible refine (C6.out).mono ?_; rintro e v6 ⟨rfl, HS6⟩)
                  go_roundw
                  case rel => exact ⟨m1, b, _, _, _, rfl, rfl, rfl, rfl, rfl, by have := HM5.out; have := HE5.out; omega, hbn, by have := HM5.out; have := HE5.out; omega, by omega, by omega, HS6⟩
                  case measure => have := HM5.out; have := HE5.out; first | (simp [intOf]; done) | (simp [intOf]; omega)
                · have ilr : ¬ (lf : Int) < (rt : Int) := by omega
                  have dlr : decide ((lf : Int) < (rt : Int)) = false := decide_eq_false ilr
                  have C6 := hid (rightT (cap := cap) (lim := lim2) HE5.out.2.2 HS5.out (fun l hl hB => IH.out (b - m1) (by have := HM5.out; have := HE5.out; omega) l m1 b lim2 v5 (Nat.le_refl _) hl (by have := HM5.out; have := HE5.out; omega) hbn hB (by omega) (by omega)))
                  go_wp2_with (go_at_call 55; with_reducible refine (C6.out).mono ?_; rintro e v6 ⟨rfl, HS6⟩)
                  go_roundw
                  case rel => exact ⟨a, mid, _, _, _, rfl, rfl, rfl, rfl, rfl, by have := HM5.out; omega, by have := HM5.out; omega, by have := HM5.out; omega, by omega, by omega, HS6⟩
                  case measure => have := HM5.out; first | (simp [intOf]; done) | (simp [intOf]; omega)
end Go.Proofs.YtjpkodllemoniaaDoor.Sr
