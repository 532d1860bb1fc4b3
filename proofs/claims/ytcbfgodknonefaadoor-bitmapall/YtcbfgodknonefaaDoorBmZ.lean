/-
  BitmapOrder's walk.
-/
import Derived.Test.YtcbfgodknonefaaDoorBmY
import Derived.Deep.RegionLaw
namespace Go.Proofs.YtcbfgodknonefaaDoor
open Go.RowKit Go.Deep Bt
set_option linter.unusedVariables false
set_option maxRecDepth 100000
set_option maxHeartbeats 4000000

/-- numbers in a block, from its head on. -/
def Cs (w : World) (g : Nat) (ys : List Int) : Prop := ∀ i (h : i < ys.length), w.cell? ⟨g, i, none⟩ = some (.int .i64 ys[i])
theorem cells_off {w w' : World} {g M : Nat} {ys : List Int} (h : Cs w g ys) (k : Ko M w w') (hg : g ≠ M) (hs : g < w.heap.size) : Cs w' g ys ∧ g < w'.heap.size :=
  ⟨fun i hi => by rw [World.cell?_of_block (w := w) (k.obj g hs hg)]; exact h i hi, Nat.lt_of_lt_of_le hs k.size⟩
theorem Cs.on2 {w w' : World} {g : Nat} {ys : List Int} (h : Cs w g ys ∧ g < w.heap.size) (k : Below w.heap.size w w') : Cs w' g ys :=
  fun i hi => by rw [k.cell (p := ⟨g, i, none⟩) h.2]; exact h.1 i hi
theorem ir_take {w : World} {g c : Nat} {ys : List Int} (h : Cs w g ys) (k : Nat) (hk : k ≤ ys.length) : Ir w (.slice (some ⟨g, 0, none⟩) k c) (ys.take k) := by
  refine Or.inr (Or.inr ⟨g, 0, c, by rw [List.length_take, Nat.min_eq_left hk], fun i hi => ?_⟩)
  have hi' : i < ys.length := by rw [List.length_take] at hi; omega
  rw [Nat.zero_add, h i hi', List.getElem_take]
theorem ir_drop {w : World} {g c : Nat} {ys : List Int} (h : Cs w g ys) (k : Nat) (hk : k < ys.length) : Ir w (.slice (some ⟨g, k + 1, none⟩) (ys.length - (k + 1)) (c - (k + 1))) (ys.drop (k + 1)) := by
  refine Or.inr (Or.inr ⟨g, k + 1, c - (k + 1), by rw [List.length_drop], fun i hi => ?_⟩)
  have hi' : k + 1 + i < ys.length := by rw [List.length_drop] at hi; omega
  rw [h _ hi', List.getElem_drop]
theorem ir_dropc {w : World} {g c : Nat} {ys : List Int} (h : Cs w g ys) (k : Nat) (hk : k < ys.length) (hc : ys.length ≤ c) : Ir w (.slice (if c = k + 1 then some ⟨g, 0, none⟩ else some ⟨g, k + 1, none⟩) (ys.length - (k + 1)) (c - (k + 1))) (ys.drop (k + 1)) := by
  by_cases e : c = k + 1
  · rw [if_pos e]
    have e2 : ys.length - (k + 1) = 0 := by omega
    refine Or.inr (Or.inl ⟨List.drop_eq_nil_of_le (by omega), ⟨g, 0, none⟩, c - (k + 1), by rw [e2]⟩)
  · rw [if_neg e]
    exact ir_drop h k hk
def lenOf : Value → Nat
  | .slice _ n _ => n
  | _ => 0
theorem insI_iff (S : Nat → Bool) (y : Int) (x : Nat) : insI S y x = true ↔ S x = true ∨ (x < 262144 ∧ (x : Int) = y) := by
  unfold insI
  by_cases h : 0 ≤ y ∧ y < 262144
  · rw [if_pos h]
    unfold ins
    simp only [Bool.or_eq_true, decide_eq_true_eq]
    constructor
    · rintro (a | a)
      · exact Or.inl a
      · exact Or.inr ⟨by omega, by omega⟩
    · rintro (a | ⟨_, a⟩)
      · exact Or.inl a
      · exact Or.inr (by omega)
  · rw [if_neg h]
    constructor
    · exact Or.inl
    · rintro (a | ⟨_, a⟩)
      · exact a
      · exact absurd ⟨by omega, by omega⟩ h
theorem rel_step {S So : Nat → Bool} (ys : List Int) (k : Nat) (hk : k < ys.length) (y : Int) (hy : ys[k] = y) (h : ∀ x : Nat, S x = true ↔ So x = true ∨ (x < 262144 ∧ (x : Int) ∈ ys)) :
    ∀ x : Nat, S x = true ↔ insI So y x = true ∨ (x < 262144 ∧ (x : Int) ∈ ys.take k ++ ys.drop (k + 1)) := by
  intro x
  have e : ys = ys.take k ++ y :: ys.drop (k + 1) := by
    rw [← hy, ← List.drop_eq_getElem_cons hk, List.take_append_drop]
  have m : (x : Int) ∈ ys ↔ (x : Int) = y ∨ (x : Int) ∈ ys.take k ++ ys.drop (k + 1) := by
    conv => lhs; rw [e]
    simp only [List.mem_append, List.mem_cons]
    constructor
    · rintro (a | a | a)
      · exact Or.inr (Or.inl a)
      · exact Or.inl a
      · exact Or.inr (Or.inr a)
    · rintro (a | a | a)
      · exact Or.inr (Or.inl a)
      · exact Or.inl a
      · exact Or.inr (Or.inr a)
  rw [h x, insI_iff, m]
  constructor
  · rintro (a | ⟨a, b | b⟩)
    · exact Or.inl (Or.inl a)
    · exact Or.inl (Or.inr ⟨a, b⟩)
    · exact Or.inr ⟨a, b⟩
  · rintro ((a | ⟨a, b⟩) | ⟨a, b⟩)
    · exact Or.inl a
    · exact Or.inr ⟨a, Or.inl b⟩
    · exact Or.inr ⟨a, Or.inr b⟩
theorem fill_iff (xs : List Int) (x : Nat) : fill xs x = true ↔ x < 262144 ∧ (x : Int) ∈ xs := by
  have gen : ∀ (xs : List Int) (S : Nat → Bool), xs.foldl insI S x = true ↔ S x = true ∨ (x < 262144 ∧ (x : Int) ∈ xs) := by
    intro xs
    induction xs with
    | nil => intro S; simp
    | cons y ys ih =>
      intro S
      rw [List.foldl_cons, ih, insI_iff, List.mem_cons]
      constructor
      · rintro ((a | ⟨a, b⟩) | ⟨a, b⟩)
        · exact Or.inl a
        · exact Or.inr ⟨a, Or.inl b⟩
        · exact Or.inr ⟨a, Or.inr b⟩
      · rintro (a | ⟨a, b | b⟩)
        · exact Or.inl (Or.inl a)
        · exact Or.inl (Or.inr ⟨a, b⟩)
        · exact Or.inr ⟨a, b⟩
  unfold fill
  rw [gen]
  simp [emp]
theorem set_eq {S T : Nat → Bool} (h : ∀ x : Nat, S x = true ↔ T x = true) : S = T := by
  funext x
  cases hs : S x with
  | true => exact ((h x).1 hs).symm
  | false =>
    cases ht : T x with
    | false => rfl
    | true => rw [(h x).2 ht] at hs; cases hs
theorem same_self (S : Nat → Bool) : sameS S S = true := by unfold sameS; simp
theorem del_ins (S : Nat → Bool) (k : Nat) (h : S k = false) : del (ins S k) k = S := by
  funext x; unfold del ins
  by_cases e : x = k
  · subst e; simp [h]
  · simp [e]
theorem tmod_lt (x : Int) (n : Nat) (hn : 0 < n) : -(n : Int) < x.tmod n ∧ x.tmod n < n := by
  have h1 := Int.tmod_lt_of_pos x (b := (n : Int)) (by omega)
  have h2 := Int.lt_tmod_of_pos x (b := (n : Int)) (by omega)
  exact ⟨h2, h1⟩

theorem order (v vt : Value) (xs ts : List Int) (t : Int) (w : World) (h1 : Is w w.heap.size v xs) (hr : ∀ w', Below w.heap.size w w' → Ir w' v xs) (h2 : Is w w.heap.size vt ts) (hL : Laid w) (h0 : 0 < w.heap.size) (hl1 : xs.length < 17592186044416) (hl2 : ts.length < 17592186044416) :
    Calls Tryd.prog 8 #[v, vt, .int .i64 t] w fun e w' => e = .returned (.bool true) ∧ Below w.heap.size w w' := by
  have CF := hid (filled_any v xs w h1 hL h0 (by omega))
  obtain ⟨pv, cap, rfl⟩ := h1.form
  obtain ⟨pt, capt, rfl⟩ := h2.form
  obtain ⟨N, hN⟩ : ∃ N, w.heap.size = N := ⟨_, rfl⟩
  rw [hN] at CF h0 h1 h2 hr ⊢
  have hNs : N ≤ w.heap.size := by omega
  have HL := hid (fun (w' : World) (k : Below N w w') => hL.on k h0)
  have HT := hid (fun (w' : World) (k : Below N w w') => h2.on k (Nat.le_refl _))
  have HR := hid hr
  have RL0 := fill_iff xs
  obtain ⟨S, hS⟩ : ∃ S, fill xs = S := ⟨_, rfl⟩
  rw [hS] at CF RL0
  have REL0 := hid (show ∀ x : Nat, S x = true ↔ emp x = true ∨ (x < 262144 ∧ (x : Int) ∈ xs) from fun x => by rw [RL0 x]; simp [emp])
  have hz := run_zero28
  clear hS hL hN h1 h2 hr RL0
  go_enter Tryd.func8, Tryd.ntmps8
  go_wp2_with (first
    | (go_at_call 21; refine (CF.out).mono ?_; clear CF; rintro e w1 ⟨rfl, hb, hm⟩; have HN1 := hid hb; have HB1 := hid hm; have OW1 := hid (owns_new w1); have HA1 := hid (show Below w1.heap.size w1 (w1.alloc (.cells #[] 3)) from (Below.refl _ w1).alloc (Nat.le_refl _) _); have HI1 := hid (HR.out _ (HN1.out.trans (HA1.out.mono (Nat.le_trans hNs HN1.out.size)))); clear hb hm)
    | (refine wpList_append_ir (by rfl) (.tmp 20) (.tmp 21) (by rfl) w1.heap.size w1.heap.size 0 0 [] (by rfl) OW1.out _ xs (by rfl) HI1.out (by omega) (by simp) xs.length xs (by simp) (by simp) ?_; intro g2 c2 w2 hown2 hb2; have HO2 := hid hown2; have HB2 := hid (show Below w1.heap.size w1 w2 from HA1.out.trans hb2); clear hown2 hb2))
  obtain ⟨p1, p2, p3⟩ := owns_room HO2.out
  have lN := HB1.out.lt
  have HB3 := hid ((HB1.out.on HB2.out).same (Below.heap_alloc w2 (.cells zrow 28) N (Nat.lt_of_lt_of_le lN HB2.out.size)))
  have HM3 := hid (Bm.new w2)
  have HN3 := hid ((HN1.out.trans (HB2.out.mono (Nat.le_trans hNs HN1.out.size))).alloc (by have := HN1.out.size; have := HB2.out.size; omega) (.cells zrow 28))
  have HC3 := hid (show Cs (w2.alloc (.cells zrow 28)) g2 xs from fun i hi => by
    rw [World.cell?_of_block (w := w2) (Below.heap_alloc w2 _ g2 p2)]; exact ir_owns HO2.out rfl i hi)
  have hMN : N ≤ w2.heap.size := by have := HN1.out.size; have := HB2.out.size; omega
  have hNM : N ≠ w2.heap.size := by have := HB2.out.size; omega
  have s3 : w2.heap.size < (w2.alloc (.cells zrow 28)).heap.size := by simp
  obtain ⟨M, hM⟩ : ∃ M, w2.heap.size = M := ⟨_, rfl⟩
  rw [hM] at HM3 hMN hNM p2 s3 ⊢
  obtain ⟨w3, hw3⟩ : ∃ w3, w2.alloc (.cells zrow 28) = w3 := ⟨_, rfl⟩
  rw [hw3] at HB3 HM3 HN3 HC3 s3 ⊢
  have HG3 := hid (show g2 ≠ M ∧ g2 < w3.heap.size from ⟨by omega, by omega⟩)
  clear hw3 HN1 HB1 hM hz HO2 HB2 OW1 HA1 HI1 HR p1 p2 lN s3
  go_loopw [9, 11, 12] (fun rv iv _ wr => ∃ (ys : List Int) (i g c : Nat) (So : Nat → Bool), rv = .slice (some ⟨g, 0, none⟩) ys.length c ∧ iv = .int .i64 i ∧ i + ys.length = xs.length ∧ ys.length ≤ c ∧ Hid (g ≠ M ∧ g < wr.heap.size) ∧ Hid (Cs wr g ys) ∧ Hid (Below N w wr) ∧ Hid (Bm wr N S) ∧ Hid (Bm wr M So) ∧ Hid (∀ x : Nat, S x = true ↔ So x = true ∨ (x < 262144 ∧ (x : Int) ∈ ys))) (fun rv _ _ _ => lenOf rv)
  case atStart => exact ⟨xs, 0, g2, c2, emp, rfl, rfl, by omega, p3, HG3, HC3, HN3, HB3, HM3, REL0⟩
  case round =>
    clear HN3 HB3 HM3 HC3 HG3 REL0
    obtain ⟨ys, i, g, c, So, rfl, rfl, hil, hyc, HG, HC, HN3, HB3, HO3, REL⟩ := hrel
    by_cases hy0 : ys.length = 0
    · have yn : ys = [] := List.eq_nil_of_length_eq_zero hy0
      subst yn
      have eS : So = S := (set_eq (fun x => by have := REL.out x; simpa using this)).symm
      subst eS
      have y1 : ¬ ((0 : Int) < ((([] : List Int).length : Nat) : Int)) := by simp
      have CE1 := hid (fun (w : World) (hB : Bm w N So) (hC : Bm w M So) => equal_any N M So So w hB hC)
      have CE2 := hid (fun (w : World) (hB : Bm w N So) (hC : Bm w M So) => equal_any M N So So w hC hB)
      have CE4 := hid (fun (w : World) (hB : Bm w N So) (hC : Bm w M So) => equal_any N M So So w hB hC)
      rw [same_self] at CE1 CE2 CE4
      have CS := hid (fun (w : World) (hB : Bm w M So) => set_any M So t w hB)
      have CT1 := hid (fun (w : World) (hB : Bm w N So) => top_any N So w hB)
      have CT2 := hid (fun (w : World) (hB : Bm w M So) => top_any M So w hB)
      obtain ⟨T, hT⟩ : ∃ T, tp So = T := ⟨_, rfl⟩
      rw [hT] at CT1 CT2
      have sN := HN3.out.size
      clear hT REL HC HG
      by_cases hset : setI So t = true
      · have hset' := hset
        unfold setI at hset'
        simp only [Bool.and_eq_true, decide_eq_true_eq, Bool.not_eq_true'] at hset'
        obtain ⟨hr, hh⟩ := hset'
        obtain ⟨k, rfl⟩ : ∃ k : Nat, t = k := ⟨t.toNat, by omega⟩
        have hk : k < 262144 := by omega
        rw [hasI_nat So k hk] at hh
        have e1 : insI So (k : Int) = ins So k := by unfold insI; rw [if_pos hr, Int.toNat_natCast]
        have CE3 := hid (fun (w : World) (hB : Bm w N So) (hC : Bm w M (ins So k)) => equal_any N M So (ins So k) w hB hC)
        have ne : sameS So (ins So k) = false := by
          unfold sameS
          rw [decide_eq_false]
          intro e
          have := (lows_eq So (ins So k)).1 e k hk
          rw [hh] at this
          unfold ins at this
          simp at this
        rw [ne] at CE3
        have CD := hid (fun (w : World) (hB : Bm w M (ins So k)) => clear_any M (ins So k) (k : Int) w hB)
        have e2 : hasI (ins So k) (k : Int) = true := by rw [hasI_nat _ k hk]; unfold ins; simp
        have e3 : delI (ins So k) (k : Int) = So := by unfold delI; rw [if_pos hr, Int.toNat_natCast]; exact del_ins So k hh
        rw [e2, e3] at CD
        rw [hset, e1] at CS
        clear hset hr hh e1 ne e2 e3
        have HNe0 := HN3
        have HBe0 := HB3
        have HMe0 := HO3
        clear HN3 HB3 HO3
        go_wp2_with (first | (go_at_call 15; refine (CE1.out _ HBe0.out HMe0.out).mono ?_; clear CE1; rintro e w20 ⟨rfl, hb⟩; have HNe1 := hid (chainB HNe0.out hNs hb); have HBe1 := hid (HBe0.out.on hb); have HMe1 := hid (HMe0.out.on hb); clear hb HNe0 HBe0 HMe0) | (go_at_call 15; refine (CE2.out _ HBe1.out HMe1.out).mono ?_; clear CE2; rintro e w21 ⟨rfl, hb⟩; have HNe2 := hid (chainB HNe1.out hNs hb); have HBe2 := hid (HBe1.out.on hb); have HMe2 := hid (HMe1.out.on hb); clear hb HNe1 HBe1 HMe1) | (go_at_call 11; refine (CS.out _ HMe2.out).mono ?_; clear CS; rintro e w22 ⟨rfl, hk4, hm4⟩; have HNe3 := hid (HNe2.out.trans (hk4.below hMN (Nat.le_trans hNs HNe2.out.size))); have HMe3 := hid hm4; have HBe3 := hid (HBe2.out.off hk4 hNM); clear hk4 hm4 HNe2 HBe2 HMe2) | (go_at_call 15; refine (CE3.out _ HBe3.out HMe3.out).mono ?_; clear CE3; rintro e w23 ⟨rfl, hb⟩; have HNe4 := hid (chainB HNe3.out hNs hb); have HBe4 := hid (HBe3.out.on hb); have HMe4 := hid (HMe3.out.on hb); clear hb HNe3 HBe3 HMe3) | (go_at_call 13; refine (CD.out _ HMe4.out).mono ?_; clear CD; rintro e w24 ⟨rfl, hk4, hm4⟩; have HNe5 := hid (HNe4.out.trans (hk4.below hMN (Nat.le_trans hNs HNe4.out.size))); have HMe5 := hid hm4; have HBe5 := hid (HBe4.out.off hk4 hNM); clear hk4 hm4 HNe4 HBe4 HMe4) | (go_at_call 15; refine (CE4.out _ HBe5.out HMe5.out).mono ?_; clear CE4; rintro e w25 ⟨rfl, hb⟩; have HNe6 := hid (chainB HNe5.out hNs hb); have HBe6 := hid (HBe5.out.on hb); have HMe6 := hid (HMe5.out.on hb); clear hb HNe5 HBe5 HMe5) | (go_at_call 19; refine (CT1.out _ HBe6.out).mono ?_; clear CT1; rintro e w40 ⟨rfl, rfl⟩) | (go_at_call 19; refine (CT2.out _ HMe6.out).mono ?_; clear CT2; rintro e w41 ⟨rfl, rfl⟩))
        go_ret
        exact ⟨by simp, HNe6.out⟩
      · have hset2 : setI So t = false := by simpa using hset
        have e1 : insI So t = So := by
          unfold insI
          by_cases hr : 0 ≤ t ∧ t < 262144
          · rw [if_pos hr]
            refine ins_there So _ ?_
            unfold setI at hset2
            rw [decide_eq_true hr] at hset2
            have := hasI_nat So t.toNat (by omega)
            rw [show ((t.toNat : Nat) : Int) = t by omega] at this
            rw [← this]
            simpa using hset2
          · rw [if_neg hr]
        rw [hset2, e1] at CS
        clear hset hset2 e1
        have HNe0 := HN3
        have HBe0 := HB3
        have HMe0 := HO3
        clear HN3 HB3 HO3
        go_wp2_with (first | (go_at_call 15; refine (CE1.out _ HBe0.out HMe0.out).mono ?_; clear CE1; rintro e w20 ⟨rfl, hb⟩; have HNe1 := hid (chainB HNe0.out hNs hb); have HBe1 := hid (HBe0.out.on hb); have HMe1 := hid (HMe0.out.on hb); clear hb HNe0 HBe0 HMe0) | (go_at_call 15; refine (CE2.out _ HBe1.out HMe1.out).mono ?_; clear CE2; rintro e w21 ⟨rfl, hb⟩; have HNe2 := hid (chainB HNe1.out hNs hb); have HBe2 := hid (HBe1.out.on hb); have HMe2 := hid (HMe1.out.on hb); clear hb HNe1 HBe1 HMe1) | (go_at_call 11; refine (CS.out _ HMe2.out).mono ?_; clear CS; rintro e w22 ⟨rfl, hk4, hm4⟩; have HNe3 := hid (HNe2.out.trans (hk4.below hMN (Nat.le_trans hNs HNe2.out.size))); have HMe3 := hid hm4; have HBe3 := hid (HBe2.out.off hk4 hNM); clear hk4 hm4 HNe2 HBe2 HMe2) | (go_at_call 15; refine (CE4.out _ HBe3.out HMe3.out).mono ?_; clear CE4; rintro e w23 ⟨rfl, hb⟩; have HNe4 := hid (chainB HNe3.out hNs hb); have HBe4 := hid (HBe3.out.on hb); have HMe4 := hid (HMe3.out.on hb); clear hb HNe3 HBe3 HMe3) | (go_at_call 19; refine (CT1.out _ HBe4.out).mono ?_; clear CT1; rintro e w40 ⟨rfl, rfl⟩) | (go_at_call 19; refine (CT2.out _ HMe4.out).mono ?_; clear CT2; rintro e w41 ⟨rfl, rfl⟩))
        go_ret
        exact ⟨by simp, HNe4.out⟩
    · have n0 : (0 : Int) < (ys.length : Int) := by omega
      by_cases hit : i < ts.length
      · obtain ⟨tb, to, rfl, _, htc⟩ := (HT.out _ HN3.out).at i hit
        obtain ⟨x, hx⟩ : ∃ x, ts[i] = x := ⟨_, rfl⟩
        rw [hx] at htc
        have i0 : (0 : Int) ≤ (i : Int) := by omega
        have i1 : (i : Int) < (ts.length : Int) := by omega
        have tm := tmod_lt x ys.length (by omega)
        clear hx
        by_cases hneg : x.tmod ys.length < 0
        · obtain ⟨r, hr⟩ : ∃ r : Int, x.tmod (ys.length : Int) = r := ⟨_, rfl⟩
          rw [hr] at tm hneg
          obtain ⟨k, hk⟩ : ∃ k : Nat, r + (ys.length : Int) = (k : Int) := ⟨(r + ys.length).toNat, by omega⟩
          have nz : ¬ ((ys.length : Int) = 0) := by omega
          have kl : k < ys.length := by omega
          have hcell := HC.out k kl
          obtain ⟨y, hy⟩ : ∃ y, ys[k] = y := ⟨_, rfl⟩
          rw [hy] at hcell
          have k0 : (0 : Int) ≤ (k : Int) := by omega
          have k1 : (k : Int) < (ys.length : Int) := by omega
          have k2 : (k : Int) + 1 ≤ (ys.length : Int) := by omega
          have k3 : ys.length < 17592186044416 := by omega
          have k4 : i < 17592186044416 := by omega
          have kc : (k : Int) ≤ (c : Int) := by omega
          have kc2 : (ys.length : Int) ≤ (c : Int) := by omega
          have CS := hid (fun (w : World) (hB : Bm w M So) => set_any M So y w hB)
          have REL2 := hid (show ∀ x : Nat, S x = true ↔ insI So y x = true ∨ (x < 262144 ∧ (x : Int) ∈ ys.take k ++ ys.drop (k + 1)) from rel_step ys k kl y hy REL.out)
          have EL := hid (show (ys.take k ++ ys.drop (k + 1)).length = ys.length - 1 by rw [List.length_append, List.length_take, List.length_drop]; omega)
          clear hy
          go_wp2_with (first | (go_at_call 11; refine (CS.out _ HO3.out).mono ?_; rintro e w4 ⟨rfl, hk4, hm4⟩; have HN4 := hid (HN3.out.trans (hk4.below hMN (Nat.le_trans hNs HN3.out.size))); have HM4 := hid hm4; have HB4 := hid (HB3.out.off hk4 hNM); have HC4 := hid (cells_off HC.out hk4 HG.out.1 HG.out.2); clear hk4 hm4))
          have OWN := hid (show (w4.alloc (.cells #[] 3)).drew.ownsRow w4.heap.size 3 1 (.slice (some ⟨w4.heap.size, 0, none⟩) 0 0) 0 (iv []) from owns_new w4)
          have HA4 := hid (show Below w4.heap.size w4 (w4.alloc (.cells #[] 3)).drew from ((Below.refl _ w4).alloc (Nat.le_refl _) _).drew)
          have HP := hid (show Ir (w4.alloc (.cells #[] 3)).drew (.slice (some ⟨g, 0, none⟩) k c) (ys.take k) from ir_take (Cs.on2 HC4.out HA4.out) k (by omega))
          have HQ := hid (fun (w' : World) (b : Below w4.heap.size w4 w') => (show Ir w' (.slice (if c = k + 1 then some ⟨g, 0, none⟩ else some ⟨g, k + 1, none⟩) (ys.length - (k + 1)) (c - (k + 1))) (ys.drop (k + 1)) from ir_dropc (Cs.on2 HC4.out b) k kl hyc))
          have lt : (ys.take k).length = k := by rw [List.length_take]; omega
          have ld : (ys.drop (k + 1)).length = ys.length - (k + 1) := by rw [List.length_drop]
          obtain ⟨kp, hkp⟩ : ∃ p, k + 1 = p := ⟨_, rfl⟩
          have wk : IntKind.i64.wrap ((k : Int) + 1) = (kp : Int) := by simp [IntKind.wrap, IntKind.bits, IntKind.signed]; omega
          rw [hkp] at HQ REL2 EL ld
          have kp0 : (0 : Int) ≤ (kp : Int) := by omega
          have kp1 : (kp : Int) ≤ (ys.length : Int) := by omega
          have kp2 : kp ≤ ys.length := by omega
          have kp3 : k ≤ kp := by omega
          clear HC hcell
          go_region_law
            (first
            | (refine step_append_ir (by rfl) (.tmp 53) (.tmp 56) (by rfl) w4.heap.size w4.heap.size 0 0 [] (by rfl) OWN.out _ (ys.take k) (by rfl) HP.out (by rw [lt]; omega) (by simp) k (ys.take k) (by rw [lt]; simp) (by simp) ?_; intro g5 c5 w5 hown5 hb5; have HO5 := hid hown5; have HB5 := hid (show Below w4.heap.size w4 w5 from HA4.out.trans hb5); clear hown5 hb5)
            | (refine step_append_ir (by rfl) (.tmp 57) (.tmp 61) (by rfl) w4.heap.size g5 k c5 (ys.take k) (by rfl) HO5.out _ (ys.drop kp) (by rfl) (HQ.out _ HB5.out) (by rw [ld]; omega) HB5.out.size (ys.length - 1) (ys.take k ++ ys.drop kp) (by rw [ld]; omega) rfl ?_; intro g6 c6 w6 hown6 hb6; have HO6 := hid hown6; have HB6 := hid (show Below w4.heap.size w4 w6 from HB5.out.trans hb6); clear hown6 hb6))
          all_goals
            obtain ⟨q1, q2, q3⟩ := owns_room HO6.out
            have sz4 : M < w4.heap.size := HM4.out.lt
            have FIN := hid (show Below N w w6 ∧ Bm w6 N S ∧ Bm w6 M (insI So y) from ⟨HN4.out.trans (HB6.out.mono (Nat.le_trans hNs HN4.out.size)), HB4.out.on HB6.out, HM4.out.on HB6.out⟩)
            have FC := hid (show Cs w6 g (ys.take k ++ ys.drop kp) → Cs w6 g (ys.take k ++ ys.drop kp) from id)
            have FC6 := hid (show Cs w6 g6 (ys.take k ++ ys.drop kp) from fun j hj => ir_owns HO6.out EL.out.symm j hj)
            clear FC
            go_wp2_with fail
            go_roundw
            case rel => exact ⟨ys.take k ++ ys.drop kp, i + 1, g6, c6, _, by rw [EL.out], by go_num, by rw [EL.out]; omega, by rw [EL.out]; exact q3, ⟨by omega, q2⟩, FC6, FIN.out.1, FIN.out.2.1, FIN.out.2.2, REL2⟩
            case measure => simp [lenOf]; omega
        · obtain ⟨k, hk⟩ : ∃ k : Nat, x.tmod (ys.length : Int) = (k : Int) := ⟨(x.tmod ys.length).toNat, by omega⟩
          have nz : ¬ ((ys.length : Int) = 0) := by omega
          rw [hk] at tm hneg
          have kl : k < ys.length := by omega
          have hcell := HC.out k kl
          obtain ⟨y, hy⟩ : ∃ y, ys[k] = y := ⟨_, rfl⟩
          rw [hy] at hcell
          have k0 : (0 : Int) ≤ (k : Int) := by omega
          have k1 : (k : Int) < (ys.length : Int) := by omega
          have k2 : (k : Int) + 1 ≤ (ys.length : Int) := by omega
          have k3 : ys.length < 17592186044416 := by omega
          have k4 : i < 17592186044416 := by omega
          have kc : (k : Int) ≤ (c : Int) := by omega
          have kc2 : (ys.length : Int) ≤ (c : Int) := by omega
          have CS := hid (fun (w : World) (hB : Bm w M So) => set_any M So y w hB)
          have REL2 := hid (show ∀ x : Nat, S x = true ↔ insI So y x = true ∨ (x < 262144 ∧ (x : Int) ∈ ys.take k ++ ys.drop (k + 1)) from rel_step ys k kl y hy REL.out)
          have EL := hid (show (ys.take k ++ ys.drop (k + 1)).length = ys.length - 1 by rw [List.length_append, List.length_take, List.length_drop]; omega)
          clear hy
          go_wp2_with (first | (go_at_call 11; refine (CS.out _ HO3.out).mono ?_; rintro e w4 ⟨rfl, hk4, hm4⟩; have HN4 := hid (HN3.out.trans (hk4.below hMN (Nat.le_trans hNs HN3.out.size))); have HM4 := hid hm4; have HB4 := hid (HB3.out.off hk4 hNM); have HC4 := hid (cells_off HC.out hk4 HG.out.1 HG.out.2); clear hk4 hm4))
          have OWN := hid (show (w4.alloc (.cells #[] 3)).drew.ownsRow w4.heap.size 3 1 (.slice (some ⟨w4.heap.size, 0, none⟩) 0 0) 0 (iv []) from owns_new w4)
          have HA4 := hid (show Below w4.heap.size w4 (w4.alloc (.cells #[] 3)).drew from ((Below.refl _ w4).alloc (Nat.le_refl _) _).drew)
          have HP := hid (show Ir (w4.alloc (.cells #[] 3)).drew (.slice (some ⟨g, 0, none⟩) k c) (ys.take k) from ir_take (Cs.on2 HC4.out HA4.out) k (by omega))
          have HQ := hid (fun (w' : World) (b : Below w4.heap.size w4 w') => (show Ir w' (.slice (if c = k + 1 then some ⟨g, 0, none⟩ else some ⟨g, k + 1, none⟩) (ys.length - (k + 1)) (c - (k + 1))) (ys.drop (k + 1)) from ir_dropc (Cs.on2 HC4.out b) k kl hyc))
          have lt : (ys.take k).length = k := by rw [List.length_take]; omega
          have ld : (ys.drop (k + 1)).length = ys.length - (k + 1) := by rw [List.length_drop]
          obtain ⟨kp, hkp⟩ : ∃ p, k + 1 = p := ⟨_, rfl⟩
          have wk : IntKind.i64.wrap ((k : Int) + 1) = (kp : Int) := by simp [IntKind.wrap, IntKind.bits, IntKind.signed]; omega
          rw [hkp] at HQ REL2 EL ld
          have kp0 : (0 : Int) ≤ (kp : Int) := by omega
          have kp1 : (kp : Int) ≤ (ys.length : Int) := by omega
          have kp2 : kp ≤ ys.length := by omega
          have kp3 : k ≤ kp := by omega
          clear HC hcell
          go_region_law
            (first
            | (refine step_append_ir (by rfl) (.tmp 53) (.tmp 56) (by rfl) w4.heap.size w4.heap.size 0 0 [] (by rfl) OWN.out _ (ys.take k) (by rfl) HP.out (by rw [lt]; omega) (by simp) k (ys.take k) (by rw [lt]; simp) (by simp) ?_; intro g5 c5 w5 hown5 hb5; have HO5 := hid hown5; have HB5 := hid (show Below w4.heap.size w4 w5 from HA4.out.trans hb5); clear hown5 hb5)
            | (refine step_append_ir (by rfl) (.tmp 57) (.tmp 61) (by rfl) w4.heap.size g5 k c5 (ys.take k) (by rfl) HO5.out _ (ys.drop kp) (by rfl) (HQ.out _ HB5.out) (by rw [ld]; omega) HB5.out.size (ys.length - 1) (ys.take k ++ ys.drop kp) (by rw [ld]; omega) rfl ?_; intro g6 c6 w6 hown6 hb6; have HO6 := hid hown6; have HB6 := hid (show Below w4.heap.size w4 w6 from HB5.out.trans hb6); clear hown6 hb6))
          all_goals
            obtain ⟨q1, q2, q3⟩ := owns_room HO6.out
            have sz4 : M < w4.heap.size := HM4.out.lt
            have FIN := hid (show Below N w w6 ∧ Bm w6 N S ∧ Bm w6 M (insI So y) from ⟨HN4.out.trans (HB6.out.mono (Nat.le_trans hNs HN4.out.size)), HB4.out.on HB6.out, HM4.out.on HB6.out⟩)
            have FC := hid (show Cs w6 g (ys.take k ++ ys.drop kp) → Cs w6 g (ys.take k ++ ys.drop kp) from id)
            have FC6 := hid (show Cs w6 g6 (ys.take k ++ ys.drop kp) from fun j hj => ir_owns HO6.out EL.out.symm j hj)
            clear FC
            go_wp2_with fail
            go_roundw
            case rel => exact ⟨ys.take k ++ ys.drop kp, i + 1, g6, c6, _, by rw [EL.out], by go_num, by rw [EL.out]; omega, by rw [EL.out]; exact q3, ⟨by omega, q2⟩, FC6, FIN.out.1, FIN.out.2.1, FIN.out.2.2, REL2⟩
            case measure => simp [lenOf]; omega
      · have i1 : ¬ ((i : Int) < (ts.length : Int)) := by omega
        obtain ⟨k, hk⟩ : ∃ k : Nat, (0 : Int) = (k : Int) := ⟨0, rfl⟩
        have kl : k < ys.length := by omega
        have hcell := HC.out k kl
        obtain ⟨y, hy⟩ : ∃ y, ys[k] = y := ⟨_, rfl⟩
        rw [hy] at hcell
        have k0 : (0 : Int) ≤ (k : Int) := by omega
        have k1 : (k : Int) < (ys.length : Int) := by omega
        have k2 : (k : Int) + 1 ≤ (ys.length : Int) := by omega
        have k3 : ys.length < 17592186044416 := by omega
        have k4 : i < 17592186044416 := by omega
        have kc : (k : Int) ≤ (c : Int) := by omega
        have kc2 : (ys.length : Int) ≤ (c : Int) := by omega
        have CS := hid (fun (w : World) (hB : Bm w M So) => set_any M So y w hB)
        have REL2 := hid (show ∀ x : Nat, S x = true ↔ insI So y x = true ∨ (x < 262144 ∧ (x : Int) ∈ ys.take k ++ ys.drop (k + 1)) from rel_step ys k kl y hy REL.out)
        have EL := hid (show (ys.take k ++ ys.drop (k + 1)).length = ys.length - 1 by rw [List.length_append, List.length_take, List.length_drop]; omega)
        clear hy
        go_wp2_with (first | (go_at_call 11; refine (CS.out _ HO3.out).mono ?_; rintro e w4 ⟨rfl, hk4, hm4⟩; have HN4 := hid (HN3.out.trans (hk4.below hMN (Nat.le_trans hNs HN3.out.size))); have HM4 := hid hm4; have HB4 := hid (HB3.out.off hk4 hNM); have HC4 := hid (cells_off HC.out hk4 HG.out.1 HG.out.2); clear hk4 hm4))
        have OWN := hid (show (w4.alloc (.cells #[] 3)).drew.ownsRow w4.heap.size 3 1 (.slice (some ⟨w4.heap.size, 0, none⟩) 0 0) 0 (iv []) from owns_new w4)
        have HA4 := hid (show Below w4.heap.size w4 (w4.alloc (.cells #[] 3)).drew from ((Below.refl _ w4).alloc (Nat.le_refl _) _).drew)
        have HP := hid (show Ir (w4.alloc (.cells #[] 3)).drew (.slice (some ⟨g, 0, none⟩) k c) (ys.take k) from ir_take (Cs.on2 HC4.out HA4.out) k (by omega))
        have HQ := hid (fun (w' : World) (b : Below w4.heap.size w4 w') => (show Ir w' (.slice (if c = k + 1 then some ⟨g, 0, none⟩ else some ⟨g, k + 1, none⟩) (ys.length - (k + 1)) (c - (k + 1))) (ys.drop (k + 1)) from ir_dropc (Cs.on2 HC4.out b) k kl hyc))
        have lt : (ys.take k).length = k := by rw [List.length_take]; omega
        have ld : (ys.drop (k + 1)).length = ys.length - (k + 1) := by rw [List.length_drop]
        obtain ⟨kp, hkp⟩ : ∃ p, k + 1 = p := ⟨_, rfl⟩
        have wk : IntKind.i64.wrap ((k : Int) + 1) = (kp : Int) := by simp [IntKind.wrap, IntKind.bits, IntKind.signed]; omega
        rw [hkp] at HQ REL2 EL ld
        have kp0 : (0 : Int) ≤ (kp : Int) := by omega
        have kp1 : (kp : Int) ≤ (ys.length : Int) := by omega
        have kp2 : kp ≤ ys.length := by omega
        have kp3 : k ≤ kp := by omega
        clear HC hcell
        go_region_law
          (first
          | (refine step_append_ir (by rfl) (.tmp 53) (.tmp 56) (by rfl) w4.heap.size w4.heap.size 0 0 [] (by rfl) OWN.out _ (ys.take k) (by rfl) HP.out (by rw [lt]; omega) (by simp) k (ys.take k) (by rw [lt]; simp) (by simp) ?_; intro g5 c5 w5 hown5 hb5; have HO5 := hid hown5; have HB5 := hid (show Below w4.heap.size w4 w5 from HA4.out.trans hb5); clear hown5 hb5)
          | (refine step_append_ir (by rfl) (.tmp 57) (.tmp 61) (by rfl) w4.heap.size g5 k c5 (ys.take k) (by rfl) HO5.out _ (ys.drop kp) (by rfl) (HQ.out _ HB5.out) (by rw [ld]; omega) HB5.out.size (ys.length - 1) (ys.take k ++ ys.drop kp) (by rw [ld]; omega) rfl ?_; intro g6 c6 w6 hown6 hb6; have HO6 := hid hown6; have HB6 := hid (show Below w4.heap.size w4 w6 from HB5.out.trans hb6); clear hown6 hb6))
        all_goals
          obtain ⟨q1, q2, q3⟩ := owns_room HO6.out
          have sz4 : M < w4.heap.size := HM4.out.lt
          have FIN := hid (show Below N w w6 ∧ Bm w6 N S ∧ Bm w6 M (insI So y) from ⟨HN4.out.trans (HB6.out.mono (Nat.le_trans hNs HN4.out.size)), HB4.out.on HB6.out, HM4.out.on HB6.out⟩)
          have FC := hid (show Cs w6 g (ys.take k ++ ys.drop kp) → Cs w6 g (ys.take k ++ ys.drop kp) from id)
          have FC6 := hid (show Cs w6 g6 (ys.take k ++ ys.drop kp) from fun j hj => ir_owns HO6.out EL.out.symm j hj)
          clear FC
          go_wp2_with fail
          go_roundw
          case rel => exact ⟨ys.take k ++ ys.drop kp, i + 1, g6, c6, _, by rw [EL.out], by go_num, by rw [EL.out]; omega, by rw [EL.out]; exact q3, ⟨by omega, q2⟩, FC6, FIN.out.1, FIN.out.2.1, FIN.out.2.2, REL2⟩
          case measure => simp [lenOf]; omega
end Go.Proofs.YtcbfgodknonefaaDoor
