/-
  Reading an amount's text, whole.
-/
import Derived.Test.YthikjpccmplbiaaParB
import Derived.Test.YthikjpccmplbiaaMonG
namespace Go.Proofs.Ythikjpccmplbiaa
open Go.RowKit Go.Deep MonM TexM ParM
set_option linter.unusedVariables false

theorem fin_zero {n : Int} {K : Nat} (h : Fin10 n K) : n / p10 K = 0 := h.2.1
theorem rd_text (n : Int) (hn : 0 ≤ n) (h1 : n ≤ 170141183460469231731687303715884105727) (K : Nat) (h : Fin10 n K) : rd (suf n K) 0 = some n := by
  have := rd_suf n hn h1 K
  rw [fin_zero h] at this
  exact this
/-- the sign and the digits of a text. -/
theorem text_parts (m : Int) (hm : Amt m) (xs : List Int) (h : IsText m xs) :
    (m < 0 ∧ ∃ r, xs = 45 :: r ∧ rd r 0 = some (-m)) ∨ (0 ≤ m ∧ (∃ d r, xs = d :: r ∧ ¬ d = 45) ∧ rd xs 0 = some m) := by
  obtain ⟨a, b⟩ := hm
  obtain ⟨K, h1, rfl⟩ := h
  by_cases h : m < 0
  · left
    rw [if_pos h] at h1 ⊢
    rw [if_pos h]
    exact ⟨h, _, rfl, rd_text _ (by omega) (by omega) K h1⟩
  · right
    rw [if_neg h] at h1 ⊢
    rw [if_neg h]
    refine ⟨by omega, ?_, rd_text _ (by omega) (by omega) K h1⟩
    obtain ⟨d, r, e, d0, d1⟩ := suf_head m (by omega) K (by have := h1.1; omega)
    exact ⟨d, r, by rw [e]; rfl, by omega⟩
theorem text_inj (m n : Int) (hm : Amt m) (hn : Amt n) (xs : List Int) (h1 : IsText m xs) (h2 : IsText n xs) : m = n := by
  rcases text_parts m hm xs h1 with ⟨a, r, e, f⟩ | ⟨a, ⟨d, r, e, g⟩, f⟩ <;> rcases text_parts n hn xs h2 with ⟨a', r', e', f'⟩ | ⟨a', ⟨d', r', e', g'⟩, f'⟩
  · rw [e] at e'
    have : r = r' := by simpa using e'
    rw [this, f'] at f
    have := Option.some.inj f
    omega
  · rw [e] at e'
    have : (45 : Int) = d' := (List.cons.inj e').1
    exact absurd this.symm g'
  · rw [e] at e'
    have : d = 45 := (List.cons.inj e').1
    exact absurd this g
  · rw [f] at f'
    exact Option.some.inj f'
theorem text_size (m : Int) (hm : Amt m) (xs : List Int) (h : IsText m xs) : xs.length ≤ 41 := by
  obtain ⟨a, b⟩ := hm
  obtain ⟨K, h1, rfl⟩ := h
  by_cases h : m < 0
  · rw [if_pos h] at h1 ⊢
    rw [if_pos h]
    have := text_len (-m) (by omega) (by omega) K h1
    simp; omega
  · rw [if_neg h] at h1 ⊢
    rw [if_neg h]
    have := text_len m (by omega) (by omega) K h1
    simp; omega

/-- what comes of reading a text. -/
def ReadP (s : ByteArray) (e : Ending) : Prop :=
  (∃ m, Amt m ∧ IsText m (nums s) ∧ e = .returned (.tuple #[mv m, .int .i64 0])) ∨ ((∀ m, Amt m → ¬ IsText m (nums s)) ∧ e = .returned (.tuple #[mv 0, .int .i64 3]))

set_option maxHeartbeats 1000000 in
theorem parse_long (s : ByteArray) (w : World) (h : 41 < s.size) (hm : s.size ≤ maxLen) :
    Calls Try.prog 18 #[.string s] w fun e w' => e = .returned (.tuple #[.agg #[.int .u64 0, .int .u64 0], .int .i64 3]) ∧ Below w.heap.size w w' := by
  unfold maxLen at hm
  have h' : (41 : Int) < (s.size : Int) := by omega
  go_enter Try.func18, Try.ntmps18
  go_wp2
  exact bodyPost_ret (v := .tuple #[.agg #[.int .u64 0, .int .u64 0], .int .i64 3]) (by simp [results, Try.results18, go_sem]) rfl ⟨rfl, bal (b0 w) _⟩

theorem cut_nums (s : ByteArray) :
    (Lib.hasPrefix s.data.toList [45] = true ∧ nums s = 45 :: nums ⟨(Lib.trimPrefix s.data.toList [45]).toArray⟩) ∨
    (Lib.hasPrefix s.data.toList [45] = false ∧ nums ⟨(Lib.trimPrefix s.data.toList [45]).toArray⟩ = nums s ∧ ∀ r, ¬ nums s = 45 :: r) := by
  unfold nums
  generalize s.data.toList = l
  cases l with
  | nil => right; refine ⟨by rfl, by rfl, fun r h => by simp at h⟩
  | cons x r =>
    by_cases hx : x = 45
    · subst hx; left; exact ⟨by simp [Lib.hasPrefix], by simp [Lib.trimPrefix, Lib.hasPrefix]⟩
    · right
      have hp : Lib.hasPrefix (x :: r) [45] = false := by
        have e : (45 == x) = false := by simp; exact fun h => hx h.symm
        show List.isPrefixOf [45] (x :: r) = false
        rw [List.isPrefixOf, e]; rfl
      refine ⟨hp, by simp [Lib.trimPrefix, hp], fun q h => ?_⟩
      simp at h
      apply hx
      have := h.1
      apply UInt8.toNat_inj.1
      have h45 : (45 : UInt8).toNat = 45 := rfl
      rw [h45]
      omega

theorem parse_any (s : ByteArray) (w : World) (hm : s.size ≤ maxLen) :
    Calls Try.prog 18 #[.string s] w fun e w' => ReadP s e ∧ Below w.heap.size w w' := by
  by_cases h : s.size ≤ 41
  · have CP := fun w => Try.strings_CutPrefix s ⟨#[45]⟩ w
    have hcut := cut_nums s
    obtain ⟨D, hD⟩ : ∃ D : ByteArray, D = ⟨(Lib.trimPrefix s.data.toList [45]).toArray⟩ := ⟨_, rfl⟩
    obtain ⟨mi, hmi⟩ : ∃ mi, mi = Lib.hasPrefix s.data.toList [45] := ⟨_, rfl⟩
    rw [← hD, ← hmi] at hcut
    have hDs : D.size ≤ 41 := by
      have h1 := nums_len D
      have h2 := nums_len s
      rcases hcut with ⟨_, e⟩ | ⟨_, e, _⟩
      · rw [e] at h2; simp at h2; omega
      · rw [e] at h1; omega
    have CP' : ∀ w : World, Calls Try.prog 38 #[.string s, .string ⟨#[45]⟩] w fun e w' => e = .returned (.tuple #[.string D, .bool mi]) ∧ w' = w := by
      intro w; rw [hD, hmi]; exact CP w
    refine (parse_walk s D mi w h hDs CP' (fun v d w a b c e => behind_any v d w a b c e)).mono ?_
    rintro e w' ⟨hp, hb⟩
    refine ⟨?_, hb⟩
    have amt : ∀ v, rd (nums D) 0 = some v → Amt (if mi then -v else v) := by
      intro v hv
      have := rd_nonneg (nums D) 0 (by decide) (by decide) v hv
      unfold Amt; split <;> omega
    have key : ∀ m, Amt m → IsText m (nums s) → ∃ v, rd (nums D) 0 = some v ∧ m = if mi then -v else v := by
      intro m hm ht
      rcases text_parts m hm _ ht with ⟨a, r, e, f⟩ | ⟨a, ⟨d, r, e, g⟩, f⟩ <;> rcases hcut with ⟨k1, k2⟩ | ⟨k1, k2, k3⟩
      · rw [e] at k2
        have : r = nums D := (List.cons.inj k2).2
        rw [this] at f
        exact ⟨-m, f, by rw [k1]; simp⟩
      · exact absurd e (k3 r)
      · rw [e] at k2
        exact absurd (List.cons.inj k2).1 g
      · rw [k2]
        exact ⟨m, f, by rw [k1]; simp⟩
    rcases hp with ⟨v, ys, h1, h2, h3, rfl⟩ | ⟨h1, rfl⟩ | ⟨v, ys, h1, h2, h3, rfl⟩
    · left
      refine ⟨_, amt v h1, ?_, rfl⟩
      rw [← h3, nums_strOfNums ys (text_bytes _ ys h2)]
      exact h2
    · right
      refine ⟨fun m hm ht => ?_, rfl⟩
      obtain ⟨v, hv, _⟩ := key m hm ht
      rw [hv] at h1; simp at h1
    · right
      refine ⟨fun m hm ht => ?_, rfl⟩
      obtain ⟨u, hu, e⟩ := key m hm ht
      rw [hu] at h1
      have := Option.some.inj h1
      subst this
      rw [e] at ht
      have := isText_unique _ _ _ ht h2
      apply h3
      rw [← this, strOfNums_nums]
  · refine (parse_long s w (by omega) hm).mono ?_
    rintro e w' ⟨rfl, hb⟩
    refine ⟨Or.inr ⟨fun m hm ht => ?_, rfl⟩, hb⟩
    have := text_size m hm _ ht
    rw [nums_len] at this
    omega
end Go.Proofs.Ythikjpccmplbiaa
