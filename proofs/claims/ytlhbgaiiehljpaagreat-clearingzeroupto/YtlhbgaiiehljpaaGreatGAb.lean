/-
  StP
-/
import Derived.Test.YtlhbgaiiehljpaaGreatGAa
namespace Go.Proofs.YtlhbgaiiehljpaaGreat.Ss
set_option linter.unusedVariables false
set_option linter.unusedSimpArgs false
/-- the greater rest first, of alike ones the lesser place. -/
def lt (r : Int → Int) (x y : Int) : Prop := r y < r x ∨ r x = r y ∧ x < y
theorem lt_trans {r : Int → Int} {x y z : Int} (h : lt r x y) (k : lt r y z) : lt r x z := by
 unfold lt at *
 omega
/-- rising from a to b. -/
def Srt (r : Int → Int) (f : Nat → Int) (a b : Nat) : Prop := ∀ i j, a ≤ i → i < j → j < b → lt r (f i) (f j)
/-- of alike rests those on the left have the lesser places. -/
def Stb (r : Int → Int) (f : Nat → Int) (a m b : Nat) : Prop := ∀ i j, a ≤ i → i < m → m ≤ j → j < b → r (f i) = r (f j) → f i < f j
theorem Srt.mono {r : Int → Int} {f : Nat → Int} {a b a' b' : Nat} (h : Srt r f a b) (ha : a ≤ a') (hb : b' ≤ b) : Srt r f a' b' := fun i j h1 h2 h3 => h i j (by omega) h2 (by omega)
theorem Srt.congr {r : Int → Int} {f f' : Nat → Int} {a b : Nat} (h : Srt r f a b) (he : ∀ x, a ≤ x → x < b → f' x = f x) : Srt r f' a b := fun i j h1 h2 h3 => by
 rw [he i h1 (by omega), he j (by omega) h3]
 exact h i j h1 h2 h3
/-- all that has changed lies from a to b, and stayed there. -/
structure Seg (f f' : Nat → Int) (a b : Nat) : Prop where
 out : ∀ x, x < a ∨ b ≤ x → f' x = f x
 inn : ∀ x, a ≤ x → x < b → ∃ y, a ≤ y ∧ y < b ∧ f' x = f y
theorem Seg.refl (f : Nat → Int) (a b : Nat) : Seg f f a b := ⟨fun _ _ => rfl, fun x h1 h2 => ⟨x, h1, h2, rfl⟩⟩
theorem Seg.trans {f f' f'' : Nat → Int} {a b : Nat} (h : Seg f f' a b) (k : Seg f' f'' a b) : Seg f f'' a b :=
 ⟨fun x hx => (k.out x hx).trans (h.out x hx), fun x h1 h2 => by
  obtain ⟨y, y1, y2, e⟩ := k.inn x h1 h2
  obtain ⟨z, z1, z2, e'⟩ := h.inn y y1 y2
  exact ⟨z, z1, z2, e.trans e'⟩⟩
theorem Seg.mono {f f' : Nat → Int} {a b a' b' : Nat} (h : Seg f f' a b) (ha : a' ≤ a) (hb : b ≤ b') : Seg f f' a' b' :=
 ⟨fun x hx => h.out x (by omega), fun x h1 h2 => by
  by_cases e : a ≤ x ∧ x < b
  ·obtain ⟨y, y1, y2, e⟩ := h.inn x e.1 e.2
   exact ⟨y, by omega, by omega, e⟩
  ·exact ⟨x, h1, h2, h.out x (by omega)⟩⟩
theorem gd_sw {l : List Int} {i j : Nat} (hi : i < l.length) (hj : j < l.length) (x : Nat) : gd (sw l i j) x = if x = j then gd l i else if x = i then gd l j else gd l x := by
 unfold sw
 have key : ∀ (l : List Int) (i : Nat) (v : Int) (x : Nat), i < l.length → gd (l.set i v) x = if x = i then v else gd l x := fun l i v x hi => by
  unfold gd
  rw [List.getD_eq_getElem?_getD, List.getD_eq_getElem?_getD]
  by_cases e : x = i
  ·subst e
   rw [List.getElem?_set_self hi, if_pos rfl]
   rfl
  ·rw [List.getElem?_set_ne (fun h => e h.symm), if_neg e]
 rw [key _ _ _ _ (by rw [List.length_set]; exact hj), key _ _ _ _ hi]
/-- within an insertion: what is inserted stands at j. -/
structure Ins (r : Int → Int) (f0 f : Nat → Int) (a i j : Nat) : Prop where
 out : ∀ x, x < a ∨ i < x → f x = f0 x
 at_ : f j = f0 i
 old : ∀ x, a ≤ x → x ≤ i → x ≠ j → ∃ y, a ≤ y ∧ y < i ∧ f x = f0 y
 lo : Srt r f a j
 hi : Srt r f j (i + 1)
 lh : ∀ x y, a ≤ x → x < j → j < y → y ≤ i → lt r (f x) (f y)
theorem Ins.start {r : Int → Int} {f0 f : Nat → Int} {a i : Nat} (hs : Seg f0 f a i) (hf : Srt r f a i) : Ins r f0 f a i i :=
 ⟨fun x hx => hs.out x (by omega), hs.out i (by omega), fun x h1 h2 h3 => hs.inn x h1 (by omega), hf, fun x y h1 h2 h3 => by omega, fun x y h1 h2 h3 h4 => by omega⟩
theorem Ins.step {r : Int → Int} {f0 : Nat → Int} {l : List Int} {a i k : Nat} (h : Ins r f0 (gd l) a i (k + 1)) (hk : a < k + 1) (hi : k + 1 ≤ i) (hl : i < l.length) (hc : r (gd l k) < r (gd l (k + 1))) : Ins r f0 (gd (sw l (k + 1) k)) a i k := by
 have e := gd_sw (l := l) (i := k + 1) (j := k) (by omega) (by omega)
 have ek : gd (sw l (k + 1) k) k = gd l (k + 1) := by rw [e, if_pos rfl]
 have ek1 : gd (sw l (k + 1) k) (k + 1) = gd l k := by rw [e, if_neg (by omega), if_pos rfl]
 have eo : ∀ x, x ≠ k → x ≠ k + 1 → gd (sw l (k + 1) k) x = gd l x := fun x h1 h2 => by rw [e, if_neg h1, if_neg h2]
 refine ⟨fun x hx => ?_, ?_, fun x h1 h2 h3 => ?_, ?_, ?_, ?_⟩
 ·rw [eo x (by omega) (by omega)]; exact h.out x hx
 ·rw [ek]; exact h.at_
 ·by_cases e1 : x = k + 1
  ·rw [e1, ek1]; exact h.old k (by omega) (by omega) (by omega)
  ·rw [eo x h3 e1]; exact h.old x h1 h2 e1
 ·intro x y h1 h2 h3
  rw [eo x (by omega) (by omega), eo y (by omega) (by omega)]
  exact h.lo x y h1 h2 (by omega)
 ·intro x y h1 h2 h3
  by_cases e1 : x = k
  ·rw [e1, ek]
   by_cases e2 : y = k + 1
   ·rw [e2, ek1]; exact .inl hc
   ·rw [eo y (by omega) e2]; exact h.hi (k + 1) y (by omega) (by omega) h3
  ·by_cases e2 : x = k + 1
   ·rw [e2, ek1, eo y (by omega) (by omega)]; exact h.lh k y (by omega) (by omega) (by omega) (by omega)
   ·rw [eo x e1 e2, eo y (by omega) (by omega)]; exact h.hi x y (by omega) h2 h3
 ·intro x y h1 h2 h3 h4
  by_cases e2 : y = k + 1
  ·rw [e2, ek1, eo x (by omega) (by omega)]; exact h.lo x k h1 h2 (by omega)
  ·rw [eo x (by omega) (by omega), eo y (by omega) e2]; exact h.lh x y h1 (by omega) (by omega) h4
theorem Ins.seg {r : Int → Int} {f0 f : Nat → Int} {a i j : Nat} (h : Ins r f0 f a i j) (ha : a ≤ i) : Seg f0 f a (i + 1) :=
 ⟨fun x hx => h.out x (by omega), fun x h1 h2 => by
  by_cases e : x = j
  ·rw [e, h.at_]; exact ⟨i, ha, by omega, rfl⟩
  ·obtain ⟨y, y1, y2, y3⟩ := h.old x h1 (by omega) e
   exact ⟨y, y1, by omega, y3⟩⟩
theorem Ins.stop {r : Int → Int} {f0 f : Nat → Int} {a i j : Nat} (h : Ins r f0 f a i j) (hj : a ≤ j) (hji : j ≤ i) (hst : ∀ x y, a ≤ x → x < y → y ≤ i → r (f0 x) = r (f0 y) → f0 x < f0 y) (hc : j = a ∨ ∃ k, j = k + 1 ∧ ¬ r (f k) < r (f j)) : Seg f0 f a (i + 1) ∧ Srt r f a (i + 1) := by
 refine ⟨h.seg (by omega), fun x y h1 h2 h3 => ?_⟩
 by_cases e1 : j ≤ x
 ·exact h.hi x y e1 h2 h3
 ·by_cases e2 : y < j
  ·exact h.lo x y h1 h2 e2
  ·by_cases e3 : j < y
   ·exact h.lh x y h1 (by omega) e3 (by omega)
   ·have ey : y = j := by omega
    subst ey
    rcases hc with hc | ⟨k, hk, hc⟩
    ·omega
    ·have kk : lt r (f k) (f y) := by
      by_cases e4 : r (f y) < r (f k)
      ·exact .inl e4
      ·obtain ⟨z, z1, z2, z3⟩ := h.old k (by omega) (by omega) (by omega)
       have e5 : r (f k) = r (f y) := by omega
       refine .inr ⟨e5, ?_⟩
       rw [z3, h.at_] at e5 ⊢
       exact hst z i z1 z2 (Nat.le_refl _) e5
     by_cases e4 : x = k
     ·rw [e4]; exact kk
     ·exact lt_trans (h.lo x k h1 (by omega) (by omega)) kk
/-- two ranges change places. -/
def swr (l : List Int) (a b : Nat) : Nat → List Int
 | 0 => l
 | n + 1 => sw (swr l a b n) (a + n) (b + n)
theorem swr_len (l : List Int) (a b n : Nat) : (swr l a b n).length = l.length := by
 induction n with
 | zero => rfl
 | succ n ih => show (sw _ _ _).length = _; unfold sw; rw [List.length_set, List.length_set]; exact ih
theorem swr_perm {l : List Int} {a b n : Nat} (ha : a + n ≤ l.length) (hb : b + n ≤ l.length) : (swr l a b n).Perm l := by
 induction n with
 | zero => exact List.Perm.refl _
 | succ n ih => exact (sw_perm (by rw [swr_len]; omega) (by rw [swr_len]; omega)).trans (ih (by omega) (by omega))
theorem gd_swr {l : List Int} {a b : Nat} : ∀ (n : Nat), a + n ≤ b → b + n ≤ l.length → ∀ x, gd (swr l a b n) x = if a ≤ x ∧ x < a + n then gd l (x - a + b) else if b ≤ x ∧ x < b + n then gd l (x - b + a) else gd l x
 | 0, _, _, x => by rw [if_neg (by omega), if_neg (by omega)]; rfl
 | n + 1, hab, hb, x => by
  have ih := gd_swr (l := l) (a := a) (b := b) n (by omega) (by omega)
  show gd (sw (swr l a b n) (a + n) (b + n)) x = _
  rw [gd_sw (by rw [swr_len]; omega) (by rw [swr_len]; omega)]
  by_cases e1 : x = b + n
  ·subst e1
   rw [if_pos rfl, ih, if_neg (by omega), if_neg (by omega), if_neg (by omega), if_pos (by omega)]
   congr 1
   omega
  ·rw [if_neg e1]
   by_cases e2 : x = a + n
   ·subst e2
    rw [if_pos rfl, ih, if_neg (by omega), if_neg (by omega), if_pos (by omega)]
    congr 1
    omega
   ·rw [if_neg e2, ih]
    by_cases e3 : a ≤ x ∧ x < a + n
    ·rw [if_pos e3, if_pos (by omega)]
    ·rw [if_neg e3]
     by_cases e4 : b ≤ x ∧ x < b + n
     ·rw [if_pos e4, if_neg (by omega), if_pos (by omega)]
     ·rw [if_neg e4, if_neg (by omega), if_neg (by omega)]
/-- what stood from a to m, and behind it up to b, have changed places. -/
def rot (f : Nat → Int) (a m b : Nat) (x : Nat) : Int := if a ≤ x ∧ x < a + (b - m) then f (x + (m - a)) else if a + (b - m) ≤ x ∧ x < b then f (x - (b - m)) else f x
theorem rot_l {l : List Int} {m i j : Nat} (hi : i ≤ m) (hij : j < i) (hj : 0 < j) (hl : m + j ≤ l.length) : rot (gd (swr l (m - i) m j)) (m - (i - j)) m (m + j) = rot (gd l) (m - i) m (m + j) := by
 funext x
 have e := gd_swr (l := l) (a := m - i) (b := m) j (by omega) hl
 unfold rot
 by_cases c1 : m - i ≤ x ∧ x < m - i + (m + j - m)
 ·rw [if_pos c1, if_neg (by omega), if_neg (by omega), e, if_pos (by omega)]
  congr 1; omega
 ·rw [if_neg c1]
  by_cases c2 : m - i + (m + j - m) ≤ x ∧ x < m + j
  ·rw [if_pos c2]
   by_cases c3 : x < m - (i - j) + (m + j - m)
   ·rw [if_pos (by omega), e, if_neg (by omega), if_pos (by omega)]
    congr 1; omega
   ·rw [if_neg (by omega), if_pos (by omega), e, if_neg (by omega), if_neg (by omega)]
  ·rw [if_neg c2, if_neg (by omega), if_neg (by omega), e, if_neg (by omega), if_neg (by omega)]
theorem rot_r {l : List Int} {m i j : Nat} (hi : i ≤ m) (hij : i < j) (h0 : 0 < i) (hl : m + j ≤ l.length) : rot (gd (swr l (m - i) (m + j - i) i)) (m - i) m (m + (j - i)) = rot (gd l) (m - i) m (m + j) := by
 funext x
 have e := gd_swr (l := l) (a := m - i) (b := m + j - i) i (by omega) (by omega)
 unfold rot
 by_cases c1 : x < m - i
 ·rw [if_neg (by omega), if_neg (by omega), if_neg (by omega), if_neg (by omega), e, if_neg (by omega), if_neg (by omega)]
 ·by_cases c2 : x < m - i + (m + (j - i) - m)
  ·rw [if_pos (by omega), if_pos (by omega), e]
   by_cases c3 : x + (m - (m - i)) < m + j - i
   ·rw [if_neg (by omega), if_neg (by omega)]
   ·omega
  ·by_cases c3 : x < m + (j - i)
   ·rw [if_neg (by omega), if_pos (by omega), e, if_pos (by omega), if_pos (by omega)]
    congr 1; omega
   ·by_cases c4 : x < m + j
    ·rw [if_neg (by omega), if_neg (by omega), e, if_neg (by omega), if_pos (by omega)]
     by_cases c5 : m - i ≤ x ∧ x < m - i + (m + j - m)
     ·omega
     ·rw [if_neg c5, if_pos (by omega)]
      congr 1; omega
    ·rw [if_neg (by omega), if_neg (by omega), if_neg (by omega), if_neg (by omega), e, if_neg (by omega), if_neg (by omega)]
theorem rot_e {l : List Int} {m i : Nat} (hi : i ≤ m) (hl : m + i ≤ l.length) : gd (swr l (m - i) m i) = rot (gd l) (m - i) m (m + i) := by
 funext x
 rw [gd_swr (l := l) (a := m - i) (b := m) i (by omega) hl]
 unfold rot
 by_cases c1 : m - i ≤ x ∧ x < m - i + i
 ·rw [if_pos c1, if_pos (by omega)]
  congr 1; omega
 ·rw [if_neg c1]
  by_cases c2 : m ≤ x ∧ x < m + i
  ·rw [if_pos c2, if_neg (by omega), if_pos (by omega)]
   congr 1; omega
  ·rw [if_neg c2, if_neg (by omega), if_neg (by omega)]
/-- left and right at once. -/
theorem no_lt {r : Int → Int} {x y : Int} (h : ¬ r x < r y) (hs : r x = r y → x < y) : lt r x y := by
 by_cases e : r y < r x
 ·exact .inl e
 ·exact .inr ⟨by omega, hs (by omega)⟩
/-- one on the left goes to its place. -/
def sh1 (f : Nat → Int) (a k x : Nat) : Int := if a ≤ x ∧ x < k then f (x + 1) else if x = k then f a else f x
theorem sh1_srt {r : Int → Int} {f : Nat → Int} {a b i : Nat} (hi : a + 1 ≤ i) (hib : i ≤ b) (h : Srt r f (a + 1) b) (h1 : ∀ x, a + 1 ≤ x → x < i → lt r (f x) (f a)) (h2 : ∀ x, i ≤ x → x < b → lt r (f a) (f x)) : Srt r (sh1 f a (i - 1)) a b ∧ Seg f (sh1 f a (i - 1)) a b := by
 have e1 : ∀ x, a ≤ x → x < i - 1 → sh1 f a (i - 1) x = f (x + 1) := fun x h1 h2 => if_pos ⟨h1, h2⟩
 have e2 : sh1 f a (i - 1) (i - 1) = f a := by unfold sh1; rw [if_neg (by omega), if_pos rfl]
 have e3 : ∀ x, i ≤ x → sh1 f a (i - 1) x = f x := fun x h1 => by unfold sh1; rw [if_neg (by omega), if_neg (by omega)]
 refine ⟨fun x y x1 xy yb => ?_, ⟨fun x hx => ?_, fun x x1 x2 => ?_⟩⟩
 ·by_cases c1 : y < i - 1
  ·rw [e1 x x1 (by omega), e1 y (by omega) c1]; exact h _ _ (by omega) (by omega) (by omega)
  ·by_cases c2 : y = i - 1
   ·rw [c2, e2, e1 x x1 (by omega)]; exact h1 _ (by omega) (by omega)
   ·rw [e3 y (by omega)]
    by_cases c3 : x < i - 1
    ·rw [e1 x x1 c3]; exact h _ _ (by omega) (by omega) yb
    ·by_cases c4 : x = i - 1
     ·rw [c4, e2]; exact h2 y (by omega) yb
     ·rw [e3 x (by omega)]; exact h x y (by omega) xy yb
 ·unfold sh1
  rw [if_neg (by omega)]
  by_cases c : x = i - 1
  ·omega
  ·rw [if_neg c]
 ·by_cases c1 : x < i - 1
  ·exact ⟨x + 1, by omega, by omega, e1 x x1 c1⟩
  ·by_cases c2 : x = i - 1
   ·exact ⟨a, Nat.le_refl _, by omega, by rw [c2]; exact e2⟩
   ·exact ⟨x, x1, x2, e3 x (by omega)⟩
/-- one on the right goes to its place. -/
def sh2 (f : Nat → Int) (m k x : Nat) : Int := if k < x ∧ x ≤ m then f (x - 1) else if x = k then f m else f x
theorem sh2_srt {r : Int → Int} {f : Nat → Int} {a m i : Nat} (ha : a ≤ i) (him : i ≤ m) (h : Srt r f a m) (h1 : ∀ x, a ≤ x → x < i → lt r (f x) (f m)) (h2 : ∀ x, i ≤ x → x < m → lt r (f m) (f x)) : Srt r (sh2 f m i) a (m + 1) ∧ Seg f (sh2 f m i) a (m + 1) := by
 have e1 : ∀ x, i < x → x ≤ m → sh2 f m i x = f (x - 1) := fun x h1 h2 => if_pos ⟨h1, h2⟩
 have e2 : sh2 f m i i = f m := by unfold sh2; rw [if_neg (by omega), if_pos rfl]
 have e3 : ∀ x, x < i → sh2 f m i x = f x := fun x h1 => by unfold sh2; rw [if_neg (by omega), if_neg (by omega)]
 refine ⟨fun x y x1 xy yb => ?_, ⟨fun x hx => ?_, fun x x1 x2 => ?_⟩⟩
 ·by_cases c1 : y < i
  ·rw [e3 x (by omega), e3 y c1]; exact h _ _ x1 xy (by omega)
  ·by_cases c2 : y = i
   ·rw [c2, e2, e3 x (by omega)]; exact h1 _ x1 (by omega)
   ·rw [e1 y (by omega) (by omega)]
    by_cases c3 : x < i
    ·rw [e3 x c3]; exact h _ _ x1 (by omega) (by omega)
    ·by_cases c4 : x = i
     ·rw [c4, e2]; exact h2 _ (by omega) (by omega)
     ·rw [e1 x (by omega) (by omega)]; exact h _ _ (by omega) (by omega) (by omega)
 ·unfold sh2
  rw [if_neg (by omega)]
  by_cases c : x = i
  ·omega
  ·rw [if_neg c]
 ·by_cases c1 : x < i
  ·exact ⟨x, x1, by omega, e3 x c1⟩
  ·by_cases c2 : x = i
   ·exact ⟨m, by omega, by omega, by rw [c2]; exact e2⟩
   ·exact ⟨x - 1, by omega, by omega, e1 x (by omega) (by omega)⟩
/-- where two runs are cut so that they can be merged apart. -/
structure Cut (r : Int → Int) (f : Nat → Int) (a m b s e : Nat) : Prop where
 sa : a ≤ s
 sm : s ≤ m
 me : m ≤ e
 eb : e ≤ b
 x1 : ∀ x y, a ≤ x → x < s → e ≤ y → y < b → lt r (f x) (f y)
 x2 : ∀ x y, s ≤ x → x < m → m ≤ y → y < e → lt r (f y) (f x)
theorem cut_of {r : Int → Int} {f : Nat → Int} {a m b mid s s0 r0 : Nat} (am : a < m) (mb : m < b) (hmid : mid = (a + b) / 2) (h0 : m > mid ∧ s0 = mid + m - b ∧ r0 = mid ∨ m ≤ mid ∧ s0 = a ∧ r0 = m) (hs0 : s0 ≤ s) (hs1 : s ≤ r0)
  (hl : Srt r f a m) (hr : Srt r f m b) (h1 : s = s0 ∨ lt r (f (s - 1)) (f (mid + m - s))) (h2 : s = r0 ∨ lt r (f (mid + m - s - 1)) (f s)) : Cut r f a m b s (mid + m - s) := by
 refine ⟨by omega, by omega, by omega, by omega, fun x y x1 x2 y1 y2 => ?_, fun x y x1 x2 y1 y2 => ?_⟩
 ·rcases h1 with h1 | h1
  ·omega
  ·have g1 : x = s - 1 ∨ lt r (f x) (f (s - 1)) := by
    by_cases c : x = s - 1
    ·exact .inl c
    ·exact .inr (hl x (s - 1) x1 (by omega) (by omega))
   have g2 : y = mid + m - s ∨ lt r (f (mid + m - s)) (f y) := by
    by_cases c : y = mid + m - s
    ·exact .inl c
    ·exact .inr (hr _ y (by omega) (by omega) y2)
   rcases g1 with g1 | g1 <;> rcases g2 with g2 | g2
   ·rw [g1, g2]; exact h1
   ·rw [g1]; exact lt_trans h1 g2
   ·rw [g2]; exact lt_trans g1 h1
   ·exact lt_trans g1 (lt_trans h1 g2)
 ·rcases h2 with h2 | h2
  ·omega
  ·have g1 : x = s ∨ lt r (f s) (f x) := by
    by_cases c : x = s
    ·exact .inl c
    ·exact .inr (hl s x (by omega) (by omega) x2)
   have g2 : y = mid + m - s - 1 ∨ lt r (f y) (f (mid + m - s - 1)) := by
    by_cases c : y = mid + m - s - 1
    ·exact .inl c
    ·exact .inr (hr y _ y1 (by omega) (by omega))
   rcases g1 with g1 | g1 <;> rcases g2 with g2 | g2
   ·rw [g1, g2]; exact h2
   ·rw [g1]; exact lt_trans g2 h2
   ·rw [g2]; exact lt_trans h2 g1
   ·exact lt_trans g2 (lt_trans h2 g1)
theorem Cut.rot {r : Int → Int} {f : Nat → Int} {a m b s e mid : Nat} (h : Cut r f a m b s e) (hm : s + e = mid + m) (hl : Srt r f a m) (hr : Srt r f m b) (hst : Stb r f a m b) :
  Srt r (rot f s m e) a s ∧ Srt r (rot f s m e) s mid ∧ Stb r (rot f s m e) a s mid ∧ Srt r (rot f s m e) mid e ∧ Srt r (rot f s m e) e b ∧ Stb r (rot f s m e) mid e b ∧ Seg f (rot f s m e) a b ∧ ∀ x y, a ≤ x → x < mid → mid ≤ y → y < b → lt r (rot f s m e x) (rot f s m e y) := by
 obtain ⟨sa, sm, me, eb, x1, x2⟩ := h
 have e1 : ∀ x, x < s → Ss.rot f s m e x = f x := fun x hx => by unfold Ss.rot; rw [if_neg (by omega), if_neg (by omega)]
 have e2 : ∀ x, s ≤ x → x < mid → Ss.rot f s m e x = f (x + (m - s)) := fun x h1 h2 => by unfold Ss.rot; rw [if_pos (by omega)]
 have e3 : ∀ x, mid ≤ x → x < e → Ss.rot f s m e x = f (x - (e - m)) := fun x h1 h2 => by unfold Ss.rot; rw [if_neg (by omega), if_pos (by omega)]
 have e4 : ∀ x, e ≤ x → Ss.rot f s m e x = f x := fun x h1 => by unfold Ss.rot; rw [if_neg (by omega), if_neg (by omega)]
 refine ⟨fun x y h1 h2 h3 => ?_, fun x y h1 h2 h3 => ?_, fun x y h1 h2 h3 h4 => ?_, fun x y h1 h2 h3 => ?_, fun x y h1 h2 h3 => ?_, fun x y h1 h2 h3 h4 => ?_, ⟨fun x hx => ?_, fun x h1 h2 => ?_⟩, fun x y h1 h2 h3 h4 => ?_⟩
 ·rw [e1 x (by omega), e1 y h3]; exact hl x y h1 h2 (by omega)
 ·rw [e2 x h1 (by omega), e2 y (by omega) h3]; exact hr _ _ (by omega) (by omega) (by omega)
 ·rw [e1 x h2, e2 y h3 h4]; exact hst _ _ h1 (by omega) (by omega) (by omega)
 ·rw [e3 x h1 (by omega), e3 y (by omega) h3]; exact hl _ _ (by omega) (by omega) (by omega)
 ·rw [e4 x h1, e4 y (by omega)]; exact hr _ _ (by omega) h2 h3
 ·rw [e3 x h1 h2, e4 y h3]; exact hst _ _ (by omega) (by omega) (by omega) h4
 ·rcases hx with hx | hx
  ·exact e1 x (by omega)
  ·exact e4 x (by omega)
 ·by_cases c1 : x < s
  ·exact ⟨x, h1, h2, e1 x c1⟩
  ·by_cases c2 : x < mid
   ·exact ⟨x + (m - s), by omega, by omega, e2 x (by omega) c2⟩
   ·by_cases c3 : x < e
    ·exact ⟨x - (e - m), by omega, by omega, e3 x (by omega) c3⟩
    ·exact ⟨x, h1, h2, e4 x (by omega)⟩
 ·by_cases c1 : x < s
  ·rw [e1 x c1]
   by_cases c2 : y < e
   ·rw [e3 y h3 c2]; exact hl _ _ h1 (by omega) (by omega)
   ·rw [e4 y (by omega)]; exact x1 _ _ h1 c1 (by omega) h4
  ·rw [e2 x (by omega) h2]
   by_cases c2 : y < e
   ·rw [e3 y h3 c2]; exact x2 _ _ (by omega) (by omega) (by omega) (by omega)
   ·rw [e4 y (by omega)]; exact hr _ _ (by omega) (by omega) h4
/-- both halves in order, all is. -/
theorem halves {r : Int → Int} {f g : Nat → Int} {a mid b : Nat} (hm : a ≤ mid) (hb : mid ≤ b) (hx : ∀ x y, a ≤ x → x < mid → mid ≤ y → y < b → lt r (f x) (f y)) (h1 : Seg f g a b) (k1 : ∀ x, a ≤ x → x < mid → ∃ y, a ≤ y ∧ y < mid ∧ g x = f y) (k2 : ∀ x, mid ≤ x → x < b → ∃ y, mid ≤ y ∧ y < b ∧ g x = f y) (s1 : Srt r g a mid) (s2 : Srt r g mid b) : Srt r g a b := fun x y x1 xy yb => by
 by_cases c1 : y < mid
 ·exact s1 x y x1 xy c1
 ·by_cases c2 : mid ≤ x
  ·exact s2 x y c2 xy yb
  ·obtain ⟨u, u1, u2, u3⟩ := k1 x x1 (by omega)
   obtain ⟨v, v1, v2, v3⟩ := k2 y (by omega) yb
   rw [u3, v3]
   exact hx u v u1 u2 v1 v2
end Go.Proofs.YtlhbgaiiehljpaaGreat.Ss
namespace Go.Proofs.YtlhbgaiiehljpaaGreat.Ss
open Go.RowKit Go.Deep
set_option linter.unusedVariables false
set_option linter.unusedSimpArgs false
set_option maxHeartbeats 8000000
set_option maxRecDepth 100000
attribute [local go_sem ↓] Go.wp_at_zero Go.wp_at_succ
def cm (x y : Int) : Int := if x < y then -1 else if y < x then 1 else 0
theorem cm_neg (x y : Int) : decide (cm x y < 0) = decide (x < y) := by
 unfold cm
 split
 ·rename_i h
  simp [h]
 ·rename_i h
  rw [decide_eq_false h]
  split <;> rfl
theorem nan_any (x : Int) (w : World) : Calls Tryz.prog 123 #[.int .u64 x] w fun e w' => e = .returned (.bool false) ∧ w' = w := by
 go_enter Tryz.func123, Tryz.ntmps123
 go_wp2
 go_ret
 simp
theorem compare_any (x y : Int) (w : World) : Calls Tryz.prog 111 #[.int .u64 x, .int .u64 y] w fun e w' => e = .returned (.int .i64 (cm x y)) ∧ w' = w := by
 have CN := hid nan_any
 unfold cm
 by_cases h : x < y
 ·rw [if_pos h]
  have e1 : decide (x < y) = true := decide_eq_true h
  go_enter Tryz.func111, Tryz.ntmps111
  go_wp2_with (go_at_call 123; with_reducible refine (CN.out _ _).mono ?_; rintro e w1 ⟨rfl, h1⟩; subst h1)
  go_ret
  exact ⟨rfl, rfl⟩
 ·rw [if_neg h]
  have e1 : decide (x < y) = false := decide_eq_false h
  by_cases h2 : y < x
  ·rw [if_pos h2]
   have e2 : decide (y < x) = true := decide_eq_true h2
   go_enter Tryz.func111, Tryz.ntmps111
   go_wp2_with (go_at_call 123; with_reducible refine (CN.out _ _).mono ?_; rintro e w1 ⟨rfl, h1⟩; subst h1)
   go_ret
   exact ⟨rfl, rfl⟩
  ·rw [if_neg h2]
   have e2 : decide (y < x) = false := decide_eq_false h2
   go_enter Tryz.func111, Tryz.ntmps111
   go_wp2_with (go_at_call 123; with_reducible refine (CN.out _ _).mono ?_; rintro e w1 ⟨rfl, h1⟩; subst h1)
   go_ret
   exact ⟨rfl, rfl⟩
/-- the closure's variable, and the rests. -/
structure Cb (w : World) (B gr N c : Nat) (rs : List Int) : Prop where
 box : w.cell? ⟨B, 0, none⟩ = some (.slice (some ⟨gr, 0, none⟩) N c)
 cel : ∀ i, i < N → w.cell? ⟨gr, i, none⟩ = some (.int .u64 (gd rs i))
 ltB : B < w.heap.size
 ltG : gr < w.heap.size
theorem Cb.kept {w w' : World} {B gr N c : Nat} {rs : List Int} {g : Nat} (h : Cb w B gr N c rs) (hk : Kp (fun b => b = g) w w') (hB : B ≠ g) (hg : gr ≠ g) : Cb w' B gr N c rs := by
 have eB := hk.obj B h.ltB hB
 have eG := hk.obj gr h.ltG hg
 refine ⟨?_, fun i hi => ?_, Nat.lt_of_lt_of_le h.ltB hk.size, Nat.lt_of_lt_of_le h.ltG hk.size⟩
 ·have := h.box
  unfold World.cell? at this ⊢
  rw [eB]
  exact this
 ·have := h.cel i hi
  unfold World.cell? at this ⊢
  rw [eG]
  exact this
theorem closure_any {w : World} {B gr N c : Nat} {rs : List Int} (h : Cb w B gr N c rs) (i j : Nat) (hi : i < N) (hj : j < N) :
  Calls Tryz.prog 110 #[.int .i64 i, .int .i64 j, .pointer (some ⟨B, 0, none⟩)] w fun e w' => e = .returned (.int .i64 (cm (gd rs j) (gd rs i))) ∧ ∃ m, w' = w.drewN m := by
 have hb := h.box
 have h1 := h.cel i hi
 have h2 := h.cel j hj
 have i0 : (0 : Int) ≤ (i : Int) := by omega
 have i1 : (i : Int) < (N : Int) := by omega
 have j0 : (0 : Int) ≤ (j : Int) := by omega
 have j1 : (j : Int) < (N : Int) := by omega
 obtain ⟨x, hx⟩ : ∃ x, gd rs i = x := ⟨_, rfl⟩
 obtain ⟨y, hy⟩ : ∃ x, gd rs j = x := ⟨_, rfl⟩
 rw [hx] at h1 ⊢
 rw [hy] at h2 ⊢
 clear h hi hj hx hy
 go_enter Tryz.func110, Tryz.ntmps110
 go_upto_region 1 with fail
 go_quiet (first | (go_at_call 111; with_reducible exact Calls.quiet_of_same (compare_any _ _ _)))
 go_wp2
 go_ret
 exact ⟨rfl, nq, rfl⟩
/-- what the sort may ask of it, as long as only block g changes. -/
def Cq (w0 : World) (g B N : Nat) (r : Int → Int) : Prop := ∀ U, Kp (fun b => b = g) w0 U → ∀ x y : Int, 0 ≤ x → x < N → 0 ≤ y → y < N → ∀ k, Calls Tryz.prog 110 #[.int .i64 x, .int .i64 y, .pointer (some ⟨B, 0, none⟩)] (U.drewN k) fun e w' => e = .returned (.int .i64 (cm (r y) (r x))) ∧ ∃ m, w' = (U.drewN k).drewN m
theorem Cq.on {w0 w1 : World} {g B N : Nat} {r : Int → Int} (h : Cq w0 g B N r) (hk : Kp (fun b => b = g) w0 w1) : Cq w1 g B N r := fun U hU => h U (hk.trans hU (fun _ _ e => e))
theorem cq_of {w : World} {g B gr N c : Nat} {rs : List Int} (h : Cb w B gr N c rs) (hB : B ≠ g) (hg : gr ≠ g) : Cq w g B N (fun x => gd rs x.toNat) := fun U hU x y x0 x1 y0 y1 k => by
 obtain ⟨i, rfl⟩ := Int.eq_ofNat_of_zero_le x0
 obtain ⟨j, rfl⟩ := Int.eq_ofNat_of_zero_le y0
 exact closure_any ((h.kept hU hB hg).kept (g := g) (Kp.drewN _ _ k) hB hg) i j (by omega) (by omega)
end Go.Proofs.YtlhbgaiiehljpaaGreat.Ss
