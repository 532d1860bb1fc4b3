/-
  StG
-/
import Derived.Test.YtlhbgaiiehljpaaGreatStF
namespace Go.Proofs.YtlhbgaiiehljpaaGreat.Ss
open Go.RowKit Go.Deep
set_option linter.unusedVariables false
set_option linter.unusedSimpArgs false
set_option maxHeartbeats 8000000
set_option maxRecDepth 100000
attribute [local go_sem ↓] Go.wp_at_zero Go.wp_at_succ
/-- up to a in order by blocks of c, from there on by blocks of b; each place is in its own block. -/
structure Mx (r : Int → Int) (f : Nat → Int) (b c a n : Nat) : Prop where
  l1 : ∀ x, x < n → x < a → ∃ y : Nat, f x = y ∧ y / c = x / c
  l2 : ∀ x, x < n → a ≤ x → ∃ y : Nat, f x = y ∧ y / b = x / b
  s1 : ∀ x y, x < y → y < n → y < a → x / c = y / c → lt r (f x) (f y)
  s2 : ∀ x y, x < y → y < n → a ≤ x → x / b = y / b → lt r (f x) (f y)
theorem div_at {c t x a : Nat} (ha : a = c * t) (h1 : a ≤ x) (h2 : x < a + c) : x / c = t := by
  subst ha
  exact Nat.div_eq_of_lt_le (by rw [Nat.mul_comm]; exact h1) (by rw [Nat.mul_comm, Nat.mul_add, Nat.mul_one]; exact h2)
theorem Mx.step {r : Int → Int} {f f' : Nat → Int} {b k c t n a e : Nat} (h : Mx r f b c a n) (ha : a = c * t) (hc : c = b * k) (he : e ≤ n) (hle : a ≤ e) (he2 : e ≤ a + c) (hs : Seg f f' a e) (hr : Srt r f' a e) : Mx r f' b c e n := by
  refine ⟨fun x x1 x2 => ?_, fun x x1 x2 => ?_, fun x y xy y1 y2 hd => ?_, fun x y xy y1 x1 hd => ?_⟩
  · by_cases c1 : x < a
    · rw [hs.out x (.inl c1)]; exact h.l1 x x1 c1
    · obtain ⟨z, z1, z2, z3⟩ := hs.inn x (by omega) x2
      obtain ⟨y, y1, y2⟩ := h.l2 z (by omega) z1
      refine ⟨y, by rw [z3]; exact y1, ?_⟩
      have e1 : y / c = z / c := by rw [hc, ← Nat.div_div_eq_div_mul, ← Nat.div_div_eq_div_mul, y2]
      rw [e1, div_at ha z1 (by omega), div_at ha (by omega) (by omega)]
  · rw [hs.out x (.inr x2)]; exact h.l2 x x1 (by omega)
  · by_cases c1 : y < a
    · rw [hs.out x (.inl (by omega)), hs.out y (.inl c1)]; exact h.s1 x y xy y1 c1 hd
    · by_cases c2 : a ≤ x
      · exact hr x y c2 xy y2
      · have e1 : y / c = t := div_at ha (by omega) (by omega)
        have e2 : x / c < t := Nat.div_lt_of_lt_mul (by omega)
        omega
  · rw [hs.out x (.inr x1), hs.out y (.inr (by omega))]; exact h.s2 x y xy y1 (by omega) hd
theorem Mx.next {r : Int → Int} {f : Nat → Int} {b c d a n : Nat} (h : Mx r f b c a n) (ha : n ≤ a) : Mx r f c d 0 n :=
  ⟨fun x x1 x2 => by omega, fun x x1 x2 => h.l1 x x1 (by omega), fun x y xy y1 y2 hd => by omega, fun x y xy y1 x1 hd => h.s1 x y xy y1 (by omega) hd⟩
theorem Mx.start {r : Int → Int} {f : Nat → Int} {c n : Nat} (h : ∀ x, x < n → f x = x) : Mx r f 1 c 0 n :=
  ⟨fun x x1 x2 => by omega, fun x x1 x2 => ⟨x, h x x1, rfl⟩, fun x y xy y1 y2 hd => by omega, fun x y xy y1 x1 hd => by simp at hd; omega⟩
/-- a block of b is in order. -/
theorem Mx.run {r : Int → Int} {f : Nat → Int} {b c a n u e t : Nat} (h : Mx r f b c a n) (hu : u = b * t) (hau : a ≤ u) (he : e ≤ u + b) (hen : e ≤ n) : Srt r f u e := fun x y x1 xy y1 =>
  h.s2 x y xy (by omega) (by omega) (by rw [div_at hu x1 (by omega), div_at hu (by omega) (by omega)])
/-- of two blocks the left one has the lesser places. -/
theorem Mx.stb {r : Int → Int} {f : Nat → Int} {b c a n u v e t : Nat} (h : Mx r f b c a n) (hb : 0 < b) (hu : u = b * t) (hv : v = u + b) (hau : a ≤ u) (hen : e ≤ n) (hev : e ≤ v + b) : Stb r f u v e := fun x y x1 x2 y1 y2 _ => by
  obtain ⟨p, p1, p2⟩ := h.l2 x (by omega) (by omega)
  obtain ⟨q, q1, q2⟩ := h.l2 y (by omega) (by omega)
  rw [div_at hu x1 (by omega)] at p2
  rw [div_at (t := t + 1) (a := v) (by rw [Nat.mul_add, Nat.mul_one, ← hu]; exact hv) y1 (by omega)] at q2
  rw [p1, q1]
  have h1 : p < b * (t + 1) := by
    have := Nat.lt_mul_div_succ p hb
    rw [p2] at this
    exact this
  have h2 : b * (t + 1) ≤ q := by
    have := Nat.mul_div_le q b
    rw [q2] at this
    exact this
  omega
theorem Mx.all {r : Int → Int} {f : Nat → Int} {b c n : Nat} (h : Mx r f b c 0 n) (hb : n ≤ b) : Srt r f 0 n := h.run (u := 0) (t := 0) rfl (Nat.le_refl _) (by omega) (Nat.le_refl _)
theorem stable_any (g cap n N B : Nat) (r : Int → Int) (l0 : List Int) (w0 : World) (h : Uz w0 g n l0) (hn : n ≤ 1152921504606846) (h0 : ∀ x, x < n → gd l0 x = x) (hN : n ≤ N) (hcq : Cq w0 g B N r) :
    Calls Tryz.prog 122 #[.slice (some ⟨g, 0, none⟩) n cap, .int .i64 n, .func (.func 110) #[] #[.pointer (some ⟨B, 0, none⟩)]] w0 fun e w' => e = .returned (.tuple #[]) ∧ Sp w0 w' g n (fun l => l.Perm l0 ∧ Srt r (gd l) 0 n) := by
  have hlen := h.len
  have HBD := hid (show ∀ x ∈ l0, 0 ≤ x ∧ x < (N : Int) from fun x hx => by
    obtain ⟨i, hi, e⟩ := List.getElem_of_mem hx
    have e2 : gd l0 i = l0[i] := by unfold gd; rw [List.getD_eq_getElem?_getD, List.getElem?_eq_getElem hi]; rfl
    rw [h0 i (by omega), e] at e2
    omega)
  have HS0 := hid (h.sp (F := fun l => l.Perm l0 ∧ Mx r (gd l) 1 20 0 n) ⟨List.Perm.refl _, Mx.start h0⟩)
  have CQ := hid hcq
  clear h h0 hcq hlen
  go_enter Tryz.func122, Tryz.ntmps122
  go_upto_region 2 with fail
  go_loopw [7, 8] (fun av bv wr => ∃ t a : Nat, a = 20 * t ∧ av = .int .i64 a ∧ bv = .int .i64 ((a + 20 : Nat) : Int) ∧ a ≤ n ∧ Hid (Sp w0 wr g n (fun l => l.Perm l0 ∧ Mx r (gd l) 1 20 a n))) (fun av _ _ => n - (intOf av).toNat)
  case atStart => exact ⟨0, 0, rfl, rfl, rfl, Nat.zero_le _, HS0⟩
  case round =>
    obtain ⟨t, a, ha, rfl, rfl, han, HS⟩ := hrel
    clear HS0
    obtain ⟨b, hb⟩ : ∃ b, a + 20 = b := ⟨_, rfl⟩
    rw [hb]
    obtain ⟨l, p1, u1, k1⟩ := HS.out
    have K1 := hid k1
    have P1 := hid p1
    have HA := hid ha
    by_cases hle : b ≤ n
    · have il : decide ((b : Int) ≤ (n : Int)) = true := decide_eq_true (by omega)
      have CI := hid (ins_st g cap n N B r l a b wr u1 (by omega) hle (by omega) (fun x hx => HBD.out x (p1.1.mem_iff.1 hx)) (fun x y x1 xy y1 _ => by
        obtain ⟨p, q1, q2⟩ := p1.2.l2 x (by omega) x1
        obtain ⟨q, s1, s2⟩ := p1.2.l2 y (by omega) (by omega)
        rw [q1, s1]
        rw [Nat.div_one, Nat.div_one] at q2 s2
        omega) (CQ.out.on k1))
      have wb : IntKind.i64.wrap ((b : Int) + 20) = ((b + 20 : Nat) : Int) := by rw [IntKind.wrap_i64]; omega
      have HBB := hid (And.intro hb hle)
      clear u1 k1 p1 HS ha hb
      go_wp2_with (go_at_call 126; with_reducible refine CI.out.mono ?_; rintro e w4 ⟨rfl, z⟩; have HZ := hid z; clear z)
      go_roundw
      case rel =>
        obtain ⟨hb, hle⟩ := HBB.out
        refine ⟨t + 1, b, by have := HA.out; omega, rfl, by go_num, hle, hid (Sp.trans K1.out (HZ.out.mono (fun l' _ hl => ⟨hl.1.trans P1.out.1, P1.out.2.step (k := 20) (t := t) HA.out rfl hle (by omega) (by omega) hl.2.1 hl.2.2⟩)))⟩
      case measure => have := HBB.out; simp [intOf]; omega
    · have il : decide ((b : Int) ≤ (n : Int)) = false := decide_eq_false (by omega)
      have CI := hid (ins_st g cap n N B r l a n wr u1 han (Nat.le_refl _) (by omega) (fun x hx => HBD.out x (p1.1.mem_iff.1 hx)) (fun x y x1 xy y1 _ => by
        obtain ⟨p, q1, q2⟩ := p1.2.l2 x (by omega) x1
        obtain ⟨q, s1, s2⟩ := p1.2.l2 y (by omega) (by omega)
        rw [q1, s1]
        rw [Nat.div_one, Nat.div_one] at q2 s2
        omega) (CQ.out.on k1))
      have HBB := hid (And.intro hb hle)
      clear u1 k1 p1 HS ha hb
      go_upto_region 7 with (go_at_call 126; with_reducible refine CI.out.mono ?_; rintro e w4 ⟨rfl, z⟩; have HZ := hid z; clear z)
      have HS1 := hid (show Sp w0 w4 g n (fun l => l.Perm l0 ∧ Mx r (gd l) 20 (20 * 2) 0 n) from Sp.trans K1.out (HZ.out.mono (fun l' _ hl => by
        obtain ⟨hb, hle⟩ := HBB.out
        exact ⟨hl.1.trans P1.out.1, (P1.out.2.step (k := 20) (t := t) (e := n) HA.out rfl (Nat.le_refl _) han (by omega) hl.2.1 hl.2.2).next (Nat.le_refl _)⟩)))
      clear HZ CI P1 K1 HA il HBB hle
      obtain ⟨V0, hV0⟩ : ∃ V, V = w4 := ⟨_, rfl⟩
      subst hV0
      go_loopw [6] (fun bv wr => ∃ bs : Nat, bv = .int .i64 bs ∧ 20 ≤ bs ∧ bs ≤ 2 * n + 20 ∧ Hid (Sp w0 wr g n (fun l => l.Perm l0 ∧ Mx r (gd l) bs (bs * 2) 0 n))) (fun bv _ => n - (intOf bv).toNat)
      case atStart => exact ⟨20, rfl, by omega, by omega, HS1⟩
      case round =>
        obtain ⟨bs, rfl, b0, b1, HS⟩ := hrel
        clear HS1
        by_cases hbn : bs < n
        · have il : decide ((bs : Int) < (n : Int)) = true := decide_eq_true (by omega)
          have w2 : IntKind.i64.wrap (2 * (bs : Int)) = ((bs * 2 : Nat) : Int) := by rw [IntKind.wrap_i64]; omega
          have w2' : 2 * (bs : Int) = ((bs * 2 : Nat) : Int) := by omega
          have HBS := hid hbn
          obtain ⟨c, hc⟩ : ∃ c, bs * 2 = c := ⟨_, rfl⟩
          rw [hc] at w2 w2' HS
          have HC := hid hc
          clear hc
          obtain ⟨V1, hV1⟩ : ∃ V, V = wr := ⟨_, rfl⟩
          subst hV1
          go_upto_region 9 with fail
          go_loopw [7, 8] (fun av bv wr => ∃ t a : Nat, a = c * t ∧ av = .int .i64 a ∧ bv = .int .i64 ((a + c : Nat) : Int) ∧ a ≤ n ∧ Hid (Sp w0 wr g n (fun l => l.Perm l0 ∧ Mx r (gd l) bs c a n))) (fun av _ _ => n - (intOf av).toNat)
          case atStart => exact ⟨0, 0, rfl, rfl, by (first | rfl | (congr 1; omega)), Nat.zero_le _, HS⟩
          case round =>
            obtain ⟨t, a, ha, rfl, rfl, han, HS2⟩ := hrel
            clear HS
            obtain ⟨b, hb⟩ : ∃ b, a + c = b := ⟨_, rfl⟩
            rw [hb]
            obtain ⟨m, hm⟩ : ∃ m, a + bs = m := ⟨_, rfl⟩
            obtain ⟨l, p1, u1, k1⟩ := HS2.out
            have K1 := hid k1
            have P1 := hid p1
            have HA := hid ha
            have hab : a = bs * (2 * t) := by rw [ha, ← HC.out, Nat.mul_assoc]
            have hmb : m = bs * (2 * t + 1) := by rw [Nat.mul_add, Nat.mul_one, ← hab]; exact hm.symm
            have wm : (a : Int) + (bs : Int) = (m : Int) := by omega
            have hcc := HC.out
            by_cases hle : b ≤ n
            · have il2 : decide ((b : Int) ≤ (n : Int)) = true := decide_eq_true (by omega)
              have CI := hid (sym_any g cap n N B r (by omega) (b - a) l a m b wr (Nat.le_refl _) u1 (by omega) (by omega) hle (fun x hx => HBD.out x (p1.1.mem_iff.1 hx)) (p1.2.run hab (Nat.le_refl _) (by omega) (by omega)) (p1.2.run hmb (by omega) (by omega) hle) (p1.2.stb (by omega) hab hm.symm (Nat.le_refl _) hle (by omega)) (CQ.out.on k1))
              have wb9 : IntKind.i64.wrap ((b : Int) + (c : Int)) = ((b + c : Nat) : Int) := by rw [IntKind.wrap_i64]; omega
              have HBB := hid (And.intro hb (And.intro hle hcc))
              clear u1 k1 p1 HS2 ha hb hab hmb hcc hm
              go_wp2_with (go_at_call 127; with_reducible refine CI.out.mono ?_; rintro e w5 ⟨rfl, z⟩; have HZ := hid z; clear z)
              go_roundw
              case rel =>
                obtain ⟨hb, hle, hcc⟩ := HBB.out
                refine ⟨t + 1, b, by rw [Nat.mul_add, Nat.mul_one, ← HA.out]; exact hb.symm, rfl, by go_num, hle, hid (Sp.trans K1.out (HZ.out.mono (fun l' _ hl => ⟨hl.1.trans P1.out.1, P1.out.2.step (k := 2) (t := t) HA.out hcc.symm hle (by omega) (by omega) hl.2.1 hl.2.2⟩)))⟩
              case measure => have := HBB.out; simp [intOf]; omega
            · have il2 : decide ((b : Int) ≤ (n : Int)) = false := decide_eq_false (by omega)
              have wbs : IntKind.i64.wrap ((bs : Int) * 2) = ((c : Nat) : Int) := by rw [IntKind.wrap_i64]; omega
              have wbs2 : (bs : Int) * 2 = (c : Int) := by omega
              by_cases hmn : m < n
              · have il3 : decide ((m : Int) < (n : Int)) = true := decide_eq_true (by omega)
                have CI := hid (sym_any g cap n N B r (by omega) (n - a) l a m n wr (Nat.le_refl _) u1 (by omega) hmn (Nat.le_refl _) (fun x hx => HBD.out x (p1.1.mem_iff.1 hx)) (p1.2.run hab (Nat.le_refl _) (by omega) (by omega)) (p1.2.run hmb (by omega) (by omega) (Nat.le_refl _)) (p1.2.stb (by omega) hab hm.symm (Nat.le_refl _) (Nat.le_refl _) (by omega)) (CQ.out.on k1))
                have HBB := hid (And.intro hb (And.intro hle hcc))
                clear u1 k1 p1 HS2 ha hb hab hmb hcc hm
                go_wp2_with (go_at_call 127; with_reducible refine CI.out.mono ?_; rintro e w5 ⟨rfl, z⟩; have HZ := hid z; clear z)
                go_roundw
                case rel =>
                  obtain ⟨hb, hle, hcc⟩ := HBB.out
                  refine ⟨c, rfl, by omega, by have := HBS.out; omega, hid (Sp.trans K1.out (HZ.out.mono (fun l' _ hl => ⟨hl.1.trans P1.out.1, (P1.out.2.step (k := 2) (t := t) (e := n) HA.out hcc.symm (Nat.le_refl _) han (by omega) hl.2.1 hl.2.2).next (Nat.le_refl _)⟩)))⟩
                case measure => have := HBB.out; have := HBS.out; simp [intOf]; omega
              · have il3 : decide ((m : Int) < (n : Int)) = false := decide_eq_false (by omega)
                have HQ := hid (show Sp w0 wr g n (fun l => l.Perm l0 ∧ Mx r (gd l) c (c * 2) 0 n) from ⟨l, ⟨p1.1, (p1.2.step (k := 2) (t := t) (e := n) ha hcc.symm (Nat.le_refl _) han (by omega) (Seg.refl _ _ _) (p1.2.run hab (Nat.le_refl _) (by omega) (Nat.le_refl _))).next (Nat.le_refl _)⟩, u1, k1⟩)
                have HBB := hid (And.intro hb (And.intro hle hcc))
                clear u1 k1 p1 HS2 ha hb hab hmb hcc hm
                go_wp2
                go_roundw
                case rel =>
                  obtain ⟨hb, hle, hcc⟩ := HBB.out
                  exact ⟨c, rfl, by omega, by have := HBS.out; omega, HQ⟩
                case measure => have := HBB.out; have := HBS.out; simp [intOf]; omega
        · have il : decide ((bs : Int) < (n : Int)) = false := decide_eq_false (by omega)
          have HE := hid (HS.out.mono (G := fun l => l.Perm l0 ∧ Srt r (gd l) 0 n) (fun l _ hl => ⟨hl.1, hl.2.all (by omega)⟩))
          go_wp2
          go_end0
          exact ⟨rfl, HE.out⟩
theorem sorted_any (g cap n N B : Nat) (r : Int → Int) (l0 : List Int) (w0 : World) (h : Uz w0 g n l0) (hn : n ≤ 1152921504606846) (h0 : ∀ x, x < n → gd l0 x = x) (hN : n ≤ N) (hcq : Cq w0 g B N r) :
    Calls Tryz.prog 109 #[.slice (some ⟨g, 0, none⟩) n cap, .func (.func 110) #[] #[.pointer (some ⟨B, 0, none⟩)]] w0 fun e w' => e = .returned (.tuple #[]) ∧ Sp w0 w' g n (fun l => l.Perm l0 ∧ Srt r (gd l) 0 n) := by
  have C := hid (stable_any g cap n N B r l0 w0 h hn h0 hN hcq)
  clear h h0 hcq
  go_enter Tryz.func109, Tryz.ntmps109
  go_wp2_with (go_at_call 122; with_reducible refine C.out.mono ?_; rintro e w4 ⟨rfl, z⟩; have HZ := hid z; clear z)
  go_end0
  exact ⟨rfl, HZ.out⟩
end Go.Proofs.YtlhbgaiiehljpaaGreat.Ss
