/-
  AuctionCurves: the walk.
-/
import Derived.Test.YtknikhoobhgidaaEnA
namespace Go.Proofs.Ytknikhoobhgidaa
open Go.RowKit Go.Deep Go.Shelf
set_option linter.unusedVariables false
set_option linter.unusedSimpArgs false
set_option maxHeartbeats 4000000
set_option maxRecDepth 100000
theorem eqZ (w : World) : (Op.equalIn 10000 30 (.agg #[.int .i64 0, .int .u64 0, .int .u64 0, .int .i64 0, .int .i64 0]) (.agg #[.int .i64 0, .int .u64 0, .int .u64 0, .int .i64 0, .int .i64 0])).run Try.prog w = .ok true w := by
  have := eqQ q0 q0 w
  simpa using this
theorem tot_mono {s : Int} {f g : It → Bool} : ∀ {l : List It}, (∀ x ∈ l, Ik s x) → (∀ x ∈ l, f x = true → g x = true) → tot (l.filter f) ≤ tot (l.filter g)
  | [], _, _ => by simp
  | x :: l, h, k => by
    have ih := tot_mono (s := s) (f := f) (g := g) (l := l) (fun y hy => h y (by simp [hy])) (fun y hy => k y (by simp [hy]))
    have hq := (h x (by simp)).q0
    have hk := k x (by simp)
    rw [List.filter_cons, List.filter_cons]
    by_cases hf : f x = true
    · rw [if_pos hf, if_pos (hk hf), tot_cons, tot_cons]; omega
    · rw [if_neg hf]
      by_cases hg : g x = true
      · rw [if_pos hg, tot_cons]; omega
      · rw [if_neg hg]; exact ih
theorem wd_buys {a b : Int} {l : List It} (h : Sd 1 l) (hab : a ≤ b) : wd b l ≤ wd a l := by
  rw [wd_filter h, wd_filter h]
  refine tot_mono h.ok (fun x hx e => ?_)
  have hs := (h.ok x hx).sd
  unfold acc at e ⊢
  rw [hs] at e ⊢
  by_cases ht : x.ty = 2
  · simp [ht]
  · simp [ht] at e ⊢; omega
theorem wd_sells {a b : Int} {l : List It} (h : Sd 2 l) (hab : a ≤ b) : wd a l ≤ wd b l := by
  rw [wd_filter h, wd_filter h]
  refine tot_mono h.ok (fun x hx e => ?_)
  have hs := (h.ok x hx).sd
  unfold acc at e ⊢
  rw [hs] at e ⊢
  by_cases ht : x.ty = 2
  · simp [ht]
  · simp [ht] at e ⊢; omega
theorem wd_bound {s p : Int} {l : List It} (h : Sd s l) : 0 ≤ wd p l ∧ wd p l ≤ 17592186044416 := by
  rw [wd_filter h]
  have := tot_bound (s := s) (l := l.filter fun y => acc p y) (fun x hx => h.ok x (List.mem_filter.1 hx).1)
  have := List.length_filter_le (fun y => acc p y) l
  have := h.ln
  omega
/-- a call that was made behind w. -/
structure Ec (w U : World) (B : Nat) (r : Int) (b s : List It) : Prop where
  cl : ∃ p1 c1 p2 c2, Cl U B r 4096 p1 c1 b p2 c2 s
  be : Below w.heap.size w U
theorem Ec.on {w U V : World} {B : Nat} {r : Int} {b s : List It} (h : Ec w U B r b s) (hb : Below U.heap.size U V) : Ec w V B r b s := by
  obtain ⟨p1, c1, p2, c2, hc⟩ := h.cl
  exact ⟨⟨p1, c1, p2, c2, hc.on hb⟩, btr h.be hb⟩
theorem Ec.curve {w U : World} {B : Nat} {r : Int} {b s : List It} (h : Ec w U B r b s) (p : Int) : Calls Try.prog 21 #[.pointer (some ⟨B, 0, none⟩), .int .i64 p] U fun e w' => e = .returned (.tuple #[.int .u64 (wd p b), .int .u64 (wd p s)]) ∧ Hid (Below U.heap.size U w') ∧ Hid (Ec w w' B r b s) := by
  obtain ⟨p1, c1, p2, c2, hc⟩ := h.cl
  exact (curve_any B r 4096 p p1 c1 b p2 c2 s U hc).mono (fun e w' h1 => ⟨h1.1, hid h1.2, hid (h.on h1.2)⟩)
theorem Ec.quote {w U : World} {B : Nat} {r : Int} {b s : List It} (h : Ec w U B r b s) : Calls Try.prog 11 #[.pointer (some ⟨B, 0, none⟩)] U fun e w' => e = .returned (.tuple #[.agg (qrow ((quo r b s).getD q0)), .bool (quo r b s).isSome]) ∧ Hid (Ec w w' B r b s) := by
  obtain ⟨p1, c1, p2, c2, hc⟩ := h.cl
  exact (quote_any B r 4096 p1 c1 b p2 c2 s U hc).mono (fun e w' h1 => ⟨h1.1, hid (h.on h1.2)⟩)
theorem Ec.sides {w U : World} {B : Nat} {r : Int} {b s : List It} (h : Ec w U B r b s) : Sd 1 b ∧ Sd 2 s := by
  obtain ⟨p1, c1, p2, c2, hc⟩ := h.cl
  exact ⟨hc.s1, hc.s2⟩
theorem out_tick {r : Int} (h : isP r = false) : (decide (r < 0) || decide (262144 ≤ r)) = true := by
  simp only [isP, decide_eq_false_iff_not] at h
  simp only [Bool.or_eq_true, decide_eq_true_eq]
  omega
theorem curves_bad (r : Int) (q : Option Addr) (n cap : Nat) (a b : Int) (w : World) (hr : isP r = false) : Calls Try.prog 7 #[.int .i64 r, .slice q n cap, .int .i64 a, .int .i64 b] w fun e w' => e = .returned (.bool true) ∧ Below w.heap.size w w' := by
  have CL := hid (fun U => lives_any U)
  have CE := hid (fun U => entered_bad r q n cap U hr)
  by_cases h0 : r < 0
  · go_enter Try.func7, Try.ntmps7
    go_wp2_with (first | (go_at_call 9; with_reducible refine (CL.out _).mono ?_; rintro e w1 ⟨rfl, hb⟩; have V1 := hid hb; clear hb) | (go_at_call 10; with_reducible refine (CE.out _).mono ?_; rintro e w2 ⟨rfl, rfl⟩))
    go_ret
    exact ⟨rfl, V1.out⟩
  · have h1 : 262144 ≤ r := by simp only [isP, decide_eq_false_iff_not] at hr; omega
    go_enter Try.func7, Try.ntmps7
    go_wp2_with (first | (go_at_call 9; with_reducible refine (CL.out _).mono ?_; rintro e w1 ⟨rfl, hb⟩; have V1 := hid hb; clear hb) | (go_at_call 10; with_reducible refine (CE.out _).mono ?_; rintro e w2 ⟨rfl, rfl⟩))
    go_ret
    exact ⟨rfl, V1.out⟩
theorem curves_up (r : Int) (q : Option Addr) (cap : Nat) (l : List It) (a b : Int) (w : World) (h : Iz w q l) (hm : l.length ≤ maxLen) (hr : isP r = true) (hab : a ≤ b) : Calls Try.prog 7 #[.int .i64 r, .slice q l.length cap, .int .i64 a, .int .i64 b] w fun e w' => e = .returned (.bool true) ∧ Below w.heap.size w w' := by
  have CL := hid (fun U => lives_any U)
  have CE := hid (fun (U : World) (hU : Below w.heap.size w U) => (entered_ok r q cap l U (h.on hU) hm hr).mono (R' := fun e w' => ∃ B pt nt ct, e = .returned (.tuple #[.pointer (some ⟨B, 0, none⟩), .slice pt nt ct]) ∧ Hid (Ec w w' B r (etd 4096 l).1 (etd 4096 l).2.1)) (fun e w' hh => by
    obtain ⟨B, pt, ct, h1, h2⟩ := hh
    obtain ⟨p1, c1, p2, c2, hc, _⟩ := h2.cl
    exact ⟨B, pt, _, ct, h1, hid ⟨⟨p1, c1, p2, c2, hc⟩, btr hU h2.be⟩⟩))
  obtain ⟨xs, hxs⟩ : ∃ x, (etd 4096 l).1 = x := ⟨_, rfl⟩
  obtain ⟨ys, hys⟩ : ∃ x, (etd 4096 l).2.1 = x := ⟨_, rfl⟩
  rw [hxs, hys] at CE
  obtain ⟨n, hn⟩ : ∃ n, l.length = n := ⟨_, rfl⟩
  rw [hn] at CE ⊢
  clear h hm hr hxs hys hn
  have pq := ptr_nil
  have qz := eqZ
  go_enter Try.func7, Try.ntmps7
  go_upto_region 8 with (first | (go_at_call 9; with_reducible refine (CL.out _).mono ?_; rintro e w1 ⟨rfl, hb⟩; have V1 := hid hb; clear hb) | (go_at_call 10; with_reducible refine (CE.out _ V1.out).mono ?_; rintro e w2 ⟨B, pt, nt, ct, rfl, E2⟩))
  obtain ⟨s1, s2⟩ := E2.out.sides
  have m1 := wd_buys (a := a) (b := b) s1 (by omega)
  have m2 := wd_sells (a := a) (b := b) s2 (by omega)
  have CA := hid (E2.out.curve a)
  have CB := hid (fun (U : World) (hU : Ec w U B r xs ys) => hU.curve b)
  have CX := hid (fun (U : World) (hU : Ec w U B r xs ys) (p : Int) => hU.curve p)
  have CQ := hid (fun (U : World) (hU : Ec w U B r xs ys) => hU.quote)
  obtain ⟨A1, h1⟩ : ∃ x, wd a xs = x := ⟨_, rfl⟩
  obtain ⟨A2, h2⟩ : ∃ x, wd a ys = x := ⟨_, rfl⟩
  obtain ⟨B1, h3⟩ : ∃ x, wd b xs = x := ⟨_, rfl⟩
  obtain ⟨B2, h4⟩ : ∃ x, wd b ys = x := ⟨_, rfl⟩
  rw [h1, h3] at m1
  rw [h2, h4] at m2
  rw [h1, h2] at CA
  rw [h3, h4] at CB
  have d1 : decide (A1 < B1) = false := decide_eq_false (by omega)
  have d2 : decide (B2 < A2) = false := decide_eq_false (by omega)
  have HS := hid (And.intro s1 s2)
  clear h1 h2 h3 h4 s1 s2 m1 m2 CE CL
  go_upto_region 12 with (first | (go_at_call 21; with_reducible refine (CA.out).mono ?_; rintro e w3 ⟨rfl, _, E3⟩) | (go_at_call 21; with_reducible refine (CB.out _ E3.out).mono ?_; rintro e w4 ⟨rfl, _, E4⟩))
  clear CA CB d1 d2
  cases hq : quo r xs ys with
  | none =>
    rw [hq] at CQ
    change Hid (∀ (U : World), Ec w U B r xs ys → Calls Try.prog 11 #[.pointer (some ⟨B, 0, none⟩)] U fun e w' => e = .returned (.tuple #[.agg #[.int .i64 0, .int .u64 0, .int .u64 0, .int .i64 0, .int .i64 0], .bool false]) ∧ Hid (Ec w w' B r xs ys)) at CQ
    clear hq
    go_wp2_with (go_at_call 11; with_reducible refine (CQ.out _ E4.out).mono ?_; rintro e w5 ⟨rfl, E5⟩)
    go_ret
    exact ⟨rfl, btr E5.out.be (ball _ _)⟩
  | some z =>
    rw [hq] at CQ
    obtain ⟨p, _, k, hz, _, _⟩ := quo_at hq
    have x0 := wd_bound (p := p) HS.out.1
    have y0 := wd_bound (p := p) HS.out.2
    have CP := hid (fun (U : World) (hU : Ec w U B r xs ys) => hU.curve p)
    obtain ⟨x, hx⟩ : ∃ x, wd p xs = x := ⟨_, rfl⟩
    obtain ⟨y, hy⟩ : ∃ x, wd p ys = x := ⟨_, rfl⟩
    rw [hx, hy] at hz CP
    rw [hx] at x0
    rw [hy] at y0
    clear hx hy hq
    unfold qAt at hz
    by_cases c1 : y < x
    · rw [if_pos c1] at hz
      subst hz
      change Hid (∀ (U : World), Ec w U B r xs ys → Calls Try.prog 11 #[.pointer (some ⟨B, 0, none⟩)] U fun e w' => e = .returned (.tuple #[.agg #[.int .i64 p, .int .u64 y, .int .u64 (x - y), .int .i64 1, .int .i64 k], .bool true]) ∧ Hid (Ec w w' B r xs ys)) at CQ
      have e2 : IntKind.u64.wrap (x - y) = x - y := by rw [IntKind.wrap_u64]; omega
      go_upto_region 13 with (go_at_call 11; with_reducible refine (CQ.out _ E4.out).mono ?_; rintro e w5 ⟨rfl, E5⟩)
      obtain ⟨X, hX⟩ : ∃ X, w5.alloc (.cells #[.int .i64 p, .int .u64 y, .int .u64 (x - y), .int .i64 1, .int .i64 k] 30) = X := ⟨_, rfl⟩
      obtain ⟨α, hα⟩ : ∃ g, w5.heap.size = g := ⟨_, rfl⟩
      have BX := hid (show Below w5.heap.size w5 X from by rw [← hX]; exact ball _ _)
      have HA := hid (show X.heap[α]? = some (.cells #[.int .i64 p, .int .u64 y, .int .u64 (x - y), .int .i64 1, .int .i64 k] 30 (0, 0)) from by rw [← hX, ← hα]; exact World.alloc_heap_new _ _)
      rw [hX, hα]
      clear hX hα
      have EX := hid (E5.out.on BX.out)
      obtain ⟨z0, z1, z2, z3, z4⟩ := row5 HA.out
      go_upto_region 16 with (go_at_call 21; with_reducible refine (CP.out _ EX.out).mono ?_; rintro e w6 ⟨rfl, V6, E6⟩)
      clear z0 z1 z2 z3 z4
      obtain ⟨z0, z1, z2, z3, z4⟩ := row5 (row_on HA.out V6.out)
      go_wp2
      go_ret
      exact ⟨by simp, E6.out.be⟩
    · rw [if_neg c1] at hz
      by_cases c2 : x < y
      · rw [if_pos c2] at hz
        subst hz
        change Hid (∀ (U : World), Ec w U B r xs ys → Calls Try.prog 11 #[.pointer (some ⟨B, 0, none⟩)] U fun e w' => e = .returned (.tuple #[.agg #[.int .i64 p, .int .u64 x, .int .u64 (y - x), .int .i64 2, .int .i64 k], .bool true]) ∧ Hid (Ec w w' B r xs ys)) at CQ
        have e2 : IntKind.u64.wrap (y - x) = y - x := by rw [IntKind.wrap_u64]; omega
        go_upto_region 13 with (go_at_call 11; with_reducible refine (CQ.out _ E4.out).mono ?_; rintro e w5 ⟨rfl, E5⟩)
        obtain ⟨X, hX⟩ : ∃ X, w5.alloc (.cells #[.int .i64 p, .int .u64 x, .int .u64 (y - x), .int .i64 2, .int .i64 k] 30) = X := ⟨_, rfl⟩
        obtain ⟨α, hα⟩ : ∃ g, w5.heap.size = g := ⟨_, rfl⟩
        have BX := hid (show Below w5.heap.size w5 X from by rw [← hX]; exact ball _ _)
        have HA := hid (show X.heap[α]? = some (.cells #[.int .i64 p, .int .u64 x, .int .u64 (y - x), .int .i64 2, .int .i64 k] 30 (0, 0)) from by rw [← hX, ← hα]; exact World.alloc_heap_new _ _)
        rw [hX, hα]
        clear hX hα
        have EX := hid (E5.out.on BX.out)
        obtain ⟨z0, z1, z2, z3, z4⟩ := row5 HA.out
        go_upto_region 16 with (go_at_call 21; with_reducible refine (CP.out _ EX.out).mono ?_; rintro e w6 ⟨rfl, V6, E6⟩)
        clear z0 z1 z2 z3 z4
        obtain ⟨z0, z1, z2, z3, z4⟩ := row5 (row_on HA.out V6.out)
        go_wp2
        go_ret
        exact ⟨by simp, E6.out.be⟩
      · rw [if_neg c2] at hz
        obtain rfl : x = y := by omega
        subst hz
        change Hid (∀ (U : World), Ec w U B r xs ys → Calls Try.prog 11 #[.pointer (some ⟨B, 0, none⟩)] U fun e w' => e = .returned (.tuple #[.agg #[.int .i64 p, .int .u64 x, .int .u64 0, .int .i64 0, .int .i64 k], .bool true]) ∧ Hid (Ec w w' B r xs ys)) at CQ
        have e2 : IntKind.u64.wrap (x - x) = 0 := by rw [IntKind.wrap_u64]; omega
        go_upto_region 13 with (go_at_call 11; with_reducible refine (CQ.out _ E4.out).mono ?_; rintro e w5 ⟨rfl, E5⟩)
        obtain ⟨X, hX⟩ : ∃ X, w5.alloc (.cells #[.int .i64 p, .int .u64 x, .int .u64 0, .int .i64 0, .int .i64 k] 30) = X := ⟨_, rfl⟩
        obtain ⟨α, hα⟩ : ∃ g, w5.heap.size = g := ⟨_, rfl⟩
        have BX := hid (show Below w5.heap.size w5 X from by rw [← hX]; exact ball _ _)
        have HA := hid (show X.heap[α]? = some (.cells #[.int .i64 p, .int .u64 x, .int .u64 0, .int .i64 0, .int .i64 k] 30 (0, 0)) from by rw [← hX, ← hα]; exact World.alloc_heap_new _ _)
        rw [hX, hα]
        clear hX hα
        have EX := hid (E5.out.on BX.out)
        obtain ⟨z0, z1, z2, z3, z4⟩ := row5 HA.out
        go_upto_region 16 with (go_at_call 21; with_reducible refine (CP.out _ EX.out).mono ?_; rintro e w6 ⟨rfl, V6, E6⟩)
        clear z0 z1 z2 z3 z4
        obtain ⟨z0, z1, z2, z3, z4⟩ := row5 (row_on HA.out V6.out)
        go_wp2
        go_ret
        exact ⟨by simp, E6.out.be⟩
theorem curves_down (r : Int) (q : Option Addr) (cap : Nat) (l : List It) (a b : Int) (w : World) (h : Iz w q l) (hm : l.length ≤ maxLen) (hr : isP r = true) (hab : b < a) : Calls Try.prog 7 #[.int .i64 r, .slice q l.length cap, .int .i64 a, .int .i64 b] w fun e w' => e = .returned (.bool true) ∧ Below w.heap.size w w' := by
  have CL := hid (fun U => lives_any U)
  have CE := hid (fun (U : World) (hU : Below w.heap.size w U) => (entered_ok r q cap l U (h.on hU) hm hr).mono (R' := fun e w' => ∃ B pt nt ct, e = .returned (.tuple #[.pointer (some ⟨B, 0, none⟩), .slice pt nt ct]) ∧ Hid (Ec w w' B r (etd 4096 l).1 (etd 4096 l).2.1)) (fun e w' hh => by
    obtain ⟨B, pt, ct, h1, h2⟩ := hh
    obtain ⟨p1, c1, p2, c2, hc, _⟩ := h2.cl
    exact ⟨B, pt, _, ct, h1, hid ⟨⟨p1, c1, p2, c2, hc⟩, btr hU h2.be⟩⟩))
  obtain ⟨xs, hxs⟩ : ∃ x, (etd 4096 l).1 = x := ⟨_, rfl⟩
  obtain ⟨ys, hys⟩ : ∃ x, (etd 4096 l).2.1 = x := ⟨_, rfl⟩
  rw [hxs, hys] at CE
  obtain ⟨n, hn⟩ : ∃ n, l.length = n := ⟨_, rfl⟩
  rw [hn] at CE ⊢
  clear h hm hr hxs hys hn
  have pq := ptr_nil
  have qz := eqZ
  go_enter Try.func7, Try.ntmps7
  go_upto_region 8 with (first | (go_at_call 9; with_reducible refine (CL.out _).mono ?_; rintro e w1 ⟨rfl, hb⟩; have V1 := hid hb; clear hb) | (go_at_call 10; with_reducible refine (CE.out _ V1.out).mono ?_; rintro e w2 ⟨B, pt, nt, ct, rfl, E2⟩))
  obtain ⟨s1, s2⟩ := E2.out.sides
  have m1 := wd_buys (a := b) (b := a) s1 (by omega)
  have m2 := wd_sells (a := b) (b := a) s2 (by omega)
  have CA := hid (E2.out.curve b)
  have CB := hid (fun (U : World) (hU : Ec w U B r xs ys) => hU.curve a)
  have CX := hid (fun (U : World) (hU : Ec w U B r xs ys) (p : Int) => hU.curve p)
  have CQ := hid (fun (U : World) (hU : Ec w U B r xs ys) => hU.quote)
  obtain ⟨A1, h1⟩ : ∃ x, wd b xs = x := ⟨_, rfl⟩
  obtain ⟨A2, h2⟩ : ∃ x, wd b ys = x := ⟨_, rfl⟩
  obtain ⟨B1, h3⟩ : ∃ x, wd a xs = x := ⟨_, rfl⟩
  obtain ⟨B2, h4⟩ : ∃ x, wd a ys = x := ⟨_, rfl⟩
  rw [h1, h3] at m1
  rw [h2, h4] at m2
  rw [h1, h2] at CA
  rw [h3, h4] at CB
  have d1 : decide (A1 < B1) = false := decide_eq_false (by omega)
  have d2 : decide (B2 < A2) = false := decide_eq_false (by omega)
  have HS := hid (And.intro s1 s2)
  clear h1 h2 h3 h4 s1 s2 m1 m2 CE CL
  go_upto_region 12 with (first | (go_at_call 21; with_reducible refine (CA.out).mono ?_; rintro e w3 ⟨rfl, _, E3⟩) | (go_at_call 21; with_reducible refine (CB.out _ E3.out).mono ?_; rintro e w4 ⟨rfl, _, E4⟩))
  clear CA CB d1 d2
  cases hq : quo r xs ys with
  | none =>
    rw [hq] at CQ
    change Hid (∀ (U : World), Ec w U B r xs ys → Calls Try.prog 11 #[.pointer (some ⟨B, 0, none⟩)] U fun e w' => e = .returned (.tuple #[.agg #[.int .i64 0, .int .u64 0, .int .u64 0, .int .i64 0, .int .i64 0], .bool false]) ∧ Hid (Ec w w' B r xs ys)) at CQ
    clear hq
    go_wp2_with (go_at_call 11; with_reducible refine (CQ.out _ E4.out).mono ?_; rintro e w5 ⟨rfl, E5⟩)
    go_ret
    exact ⟨rfl, btr E5.out.be (ball _ _)⟩
  | some z =>
    rw [hq] at CQ
    obtain ⟨p, _, k, hz, _, _⟩ := quo_at hq
    have x0 := wd_bound (p := p) HS.out.1
    have y0 := wd_bound (p := p) HS.out.2
    have CP := hid (fun (U : World) (hU : Ec w U B r xs ys) => hU.curve p)
    obtain ⟨x, hx⟩ : ∃ x, wd p xs = x := ⟨_, rfl⟩
    obtain ⟨y, hy⟩ : ∃ x, wd p ys = x := ⟨_, rfl⟩
    rw [hx, hy] at hz CP
    rw [hx] at x0
    rw [hy] at y0
    clear hx hy hq
    unfold qAt at hz
    by_cases c1 : y < x
    · rw [if_pos c1] at hz
      subst hz
      change Hid (∀ (U : World), Ec w U B r xs ys → Calls Try.prog 11 #[.pointer (some ⟨B, 0, none⟩)] U fun e w' => e = .returned (.tuple #[.agg #[.int .i64 p, .int .u64 y, .int .u64 (x - y), .int .i64 1, .int .i64 k], .bool true]) ∧ Hid (Ec w w' B r xs ys)) at CQ
      have e2 : IntKind.u64.wrap (x - y) = x - y := by rw [IntKind.wrap_u64]; omega
      go_upto_region 13 with (go_at_call 11; with_reducible refine (CQ.out _ E4.out).mono ?_; rintro e w5 ⟨rfl, E5⟩)
      obtain ⟨X, hX⟩ : ∃ X, w5.alloc (.cells #[.int .i64 p, .int .u64 y, .int .u64 (x - y), .int .i64 1, .int .i64 k] 30) = X := ⟨_, rfl⟩
      obtain ⟨α, hα⟩ : ∃ g, w5.heap.size = g := ⟨_, rfl⟩
      have BX := hid (show Below w5.heap.size w5 X from by rw [← hX]; exact ball _ _)
      have HA := hid (show X.heap[α]? = some (.cells #[.int .i64 p, .int .u64 y, .int .u64 (x - y), .int .i64 1, .int .i64 k] 30 (0, 0)) from by rw [← hX, ← hα]; exact World.alloc_heap_new _ _)
      rw [hX, hα]
      clear hX hα
      have EX := hid (E5.out.on BX.out)
      obtain ⟨z0, z1, z2, z3, z4⟩ := row5 HA.out
      go_upto_region 16 with (go_at_call 21; with_reducible refine (CP.out _ EX.out).mono ?_; rintro e w6 ⟨rfl, V6, E6⟩)
      clear z0 z1 z2 z3 z4
      obtain ⟨z0, z1, z2, z3, z4⟩ := row5 (row_on HA.out V6.out)
      go_wp2
      go_ret
      exact ⟨by simp, E6.out.be⟩
    · rw [if_neg c1] at hz
      by_cases c2 : x < y
      · rw [if_pos c2] at hz
        subst hz
        change Hid (∀ (U : World), Ec w U B r xs ys → Calls Try.prog 11 #[.pointer (some ⟨B, 0, none⟩)] U fun e w' => e = .returned (.tuple #[.agg #[.int .i64 p, .int .u64 x, .int .u64 (y - x), .int .i64 2, .int .i64 k], .bool true]) ∧ Hid (Ec w w' B r xs ys)) at CQ
        have e2 : IntKind.u64.wrap (y - x) = y - x := by rw [IntKind.wrap_u64]; omega
        go_upto_region 13 with (go_at_call 11; with_reducible refine (CQ.out _ E4.out).mono ?_; rintro e w5 ⟨rfl, E5⟩)
        obtain ⟨X, hX⟩ : ∃ X, w5.alloc (.cells #[.int .i64 p, .int .u64 x, .int .u64 (y - x), .int .i64 2, .int .i64 k] 30) = X := ⟨_, rfl⟩
        obtain ⟨α, hα⟩ : ∃ g, w5.heap.size = g := ⟨_, rfl⟩
        have BX := hid (show Below w5.heap.size w5 X from by rw [← hX]; exact ball _ _)
        have HA := hid (show X.heap[α]? = some (.cells #[.int .i64 p, .int .u64 x, .int .u64 (y - x), .int .i64 2, .int .i64 k] 30 (0, 0)) from by rw [← hX, ← hα]; exact World.alloc_heap_new _ _)
        rw [hX, hα]
        clear hX hα
        have EX := hid (E5.out.on BX.out)
        obtain ⟨z0, z1, z2, z3, z4⟩ := row5 HA.out
        go_upto_region 16 with (go_at_call 21; with_reducible refine (CP.out _ EX.out).mono ?_; rintro e w6 ⟨rfl, V6, E6⟩)
        clear z0 z1 z2 z3 z4
        obtain ⟨z0, z1, z2, z3, z4⟩ := row5 (row_on HA.out V6.out)
        go_wp2
        go_ret
        exact ⟨by simp, E6.out.be⟩
      · rw [if_neg c2] at hz
        obtain rfl : x = y := by omega
        subst hz
        change Hid (∀ (U : World), Ec w U B r xs ys → Calls Try.prog 11 #[.pointer (some ⟨B, 0, none⟩)] U fun e w' => e = .returned (.tuple #[.agg #[.int .i64 p, .int .u64 x, .int .u64 0, .int .i64 0, .int .i64 k], .bool true]) ∧ Hid (Ec w w' B r xs ys)) at CQ
        have e2 : IntKind.u64.wrap (x - x) = 0 := by rw [IntKind.wrap_u64]; omega
        go_upto_region 13 with (go_at_call 11; with_reducible refine (CQ.out _ E4.out).mono ?_; rintro e w5 ⟨rfl, E5⟩)
        obtain ⟨X, hX⟩ : ∃ X, w5.alloc (.cells #[.int .i64 p, .int .u64 x, .int .u64 0, .int .i64 0, .int .i64 k] 30) = X := ⟨_, rfl⟩
        obtain ⟨α, hα⟩ : ∃ g, w5.heap.size = g := ⟨_, rfl⟩
        have BX := hid (show Below w5.heap.size w5 X from by rw [← hX]; exact ball _ _)
        have HA := hid (show X.heap[α]? = some (.cells #[.int .i64 p, .int .u64 x, .int .u64 0, .int .i64 0, .int .i64 k] 30 (0, 0)) from by rw [← hX, ← hα]; exact World.alloc_heap_new _ _)
        rw [hX, hα]
        clear hX hα
        have EX := hid (E5.out.on BX.out)
        obtain ⟨z0, z1, z2, z3, z4⟩ := row5 HA.out
        go_upto_region 16 with (go_at_call 21; with_reducible refine (CP.out _ EX.out).mono ?_; rintro e w6 ⟨rfl, V6, E6⟩)
        clear z0 z1 z2 z3 z4
        obtain ⟨z0, z1, z2, z3, z4⟩ := row5 (row_on HA.out V6.out)
        go_wp2
        go_ret
        exact ⟨by simp, E6.out.be⟩
theorem curves_walk (r : Int) (q : Option Addr) (cap : Nat) (l : List It) (a b : Int) (w : World) (h : Iz w q l) (hm : l.length ≤ maxLen) : Calls Try.prog 7 #[.int .i64 r, .slice q l.length cap, .int .i64 a, .int .i64 b] w fun e w' => e = .returned (.bool true) ∧ Below w.heap.size w w' := by
  cases hr : isP r with
  | false => exact curves_bad r q l.length cap a b w hr
  | true =>
    by_cases hab : a ≤ b
    · exact curves_up r q cap l a b w h hm hr hab
    · exact curves_down r q cap l a b w h hm hr (by omega)
end Go.Proofs.Ytknikhoobhgidaa
