/-
  DmC
-/
import Derived.Test.YtegdhffejmbakaaDmB
namespace Go.Proofs.Ytegdhffejmbakaa.Dm
open Go.RowKit Go.Deep BigM MonM TexM ParM
set_option linter.unusedVariables false
set_option linter.unusedSimpArgs false
set_option maxHeartbeats 8000000
set_option maxRecDepth 100000
attribute [local go_sem ↓] Go.wp_at_zero Go.wp_at_succ
theorem fin_le {x : Int} (h0 : 0 ≤ x) (h1 : x ≤ 170141183460469231731687303715884105727) {K : Nat} (h : Fin10 x K) : K ≤ 39 := by
  obtain ⟨a, b, c⟩ := h
  rcases c with c | c
  · omega
  · have := k_le x h0 h1 _ c
    omega
theorem str_take (l : List Int) (k : Nat) : (strOfNums l).extract 0 k = strOfNums (l.take k) := by
  apply ByteArray.ext
  rw [ByteArray.data_extract]
  apply Array.ext'
  simp [strOfNums]
theorem str_drop (l : List Int) (k : Nat) : (strOfNums l).extract k l.length = strOfNums (l.drop k) := by
  apply ByteArray.ext
  rw [ByteArray.data_extract]
  apply Array.ext'
  simp [strOfNums]
  exact List.take_of_length_le (by simp)
theorem str_pt (x : Int) (j : Nat) : (strOfNums (dg x (j + 3))).extract 0 (j + 1) ++ ⟨#[46]⟩ ++ (strOfNums (dg x (j + 3))).extract (j + 1) (j + 3) = strOfNums (suf x (j + 3)) := by
  have h := str_drop (dg x (j + 3)) (j + 1)
  rw [dg_len] at h
  rw [str_take, h, suf_dg, show (⟨#[46]⟩ : ByteArray) = strOfNums [46] from rfl, str_app, str_app]
  simp
theorem reftext_any (v : Value) (m : Int) (w : World) (hv : Am w v m) (hm : Amt m) :
    Calls Try.prog 24 #[v] w fun e w' => (∃ xs, IsText m xs ∧ e = .returned (.string (strOfNums xs))) ∧ Below w.heap.size w w' := by
  obtain ⟨u, rfl, hu⟩ := hv
  obtain ⟨x, hx⟩ : ∃ x, absI m = x := ⟨_, rfl⟩
  rw [hx] at hu
  have h0 : 0 ≤ x := hu.nonneg
  have h1 : x ≤ 170141183460469231731687303715884105727 := by rw [← hx]; obtain ⟨a, b⟩ := hm; unfold absI; split <;> omega
  obtain ⟨b, hb⟩ : ∃ b, decide (m < 0) = b := ⟨_, rfl⟩
  obtain ⟨a, n, c, rfl, hn⟩ := bn_form hu
  obtain ⟨W1, hW1⟩ : ∃ W, w.alloc (.cells #[.bool b, .slice a n c] 41) = W := ⟨_, rfl⟩
  have B1 := hid (show Below w.heap.size w W1 from by rw [← hW1]; exact ball _ _)
  have r1 : W1.heap[w.heap.size]? = some (.cells #[.bool b, .slice a n c] 41 (0, 0)) := by rw [← hW1]; exact World.alloc_heap_new _ _
  have R1 := hid r1
  have CD := hid (decimal_any _ x W1 (hu.to B1.out) h1)
  have c1 : W1.cell? ⟨w.heap.size, 1, none⟩ = some (.slice a n c) := row_cell r1 1
  have HH := hid (And.intro h0 h1)
  have HB := hid hb
  have HX := hid hx
  rw [hb]
  clear hu hm hx hb r1 h0 h1
  go_enter Try.func24, Try.ntmps24
  go_upto_region 2 with (go_at_call 50; with_reducible refine CD.out.mono ?_; rintro e w2 ⟨⟨K, hK, rfl⟩, h2⟩; have HK := hid hK; have B2 := hid (btr B1.out h2); have r2 := hid (row_on R1.out h2); clear hK h2)
  obtain ⟨j, rfl⟩ : ∃ j, K = j + 3 := ⟨K - 3, by have := HK.out.1; omega⟩
  have hj : j ≤ 36 := by have := fin_le HH.out.1 HH.out.2 HK.out; omega
  obtain ⟨S, hS⟩ : ∃ S, strOfNums (dg x (j + 3)) = S := ⟨_, rfl⟩
  have HS := hid hS
  have hz : S.size = j + 3 := by rw [← hS, strOfNums_size, dg_len]
  have c0 : w2.cell? ⟨w.heap.size, 0, none⟩ = some (.bool b) := row_cell r2.out 0
  have wj : IntKind.i64.wrap (((j + 3 : Nat) : Int) - 2) = ((j + 1 : Nat) : Int) := by rw [IntKind.wrap_i64]; omega
  rw [hS]
  clear hS CD c1
  go_big_quiet (fail)
  have HP := hid (str_pt x j)
  rw [HS.out] at HP
  obtain ⟨T, hT⟩ : ∃ T, S.extract 0 (j + 1) ++ ⟨#[46]⟩ ++ S.extract (j + 1) (j + 3) = T := ⟨_, rfl⟩
  have hTz : T.size = j + 4 := by rw [← hT, HP.out, strOfNums_size, suf_len, if_neg (by omega)]
  have HT := hid (show T = strOfNums (suf x (j + 3)) from by rw [← hT]; exact HP.out)
  have HB2 := hid (show Below w.heap.size w (w2.drewN nq) from btr B2.out (bdrewN _ _))
  have c9 : (w2.drewN nq).cell? ⟨w.heap.size, 0, none⟩ = some (.bool b) := c0
  obtain ⟨V, hV⟩ : ∃ V, w2.drewN nq = V := ⟨_, rfl⟩
  rw [hT]
  rw [hV] at HB2 c9 ⊢
  clear hT hV HP r2 c0
  have EX := hid (show ∀ xs, xs = (if m < 0 then [45] else []) ++ suf x (j + 3) → IsText m xs from fun xs e => by
    have hx : (if m < 0 then -m else m) = x := HX.out
    refine ⟨j + 3, ?_, ?_⟩
    · rw [hx]; exact HK.out
    · rw [hx]; exact e)
  cases b with
  | true =>
    have h0 : m < 0 := of_decide_eq_true HB.out
    have HM := hid h0
    have hcat : (⟨#[45]⟩ : ByteArray) ++ T = strOfNums (45 :: suf x (j + 3)) := by
      rw [HT.out, show (⟨#[45]⟩ : ByteArray) = strOfNums [45] from rfl, str_app]
      rfl
    clear h0
    go_wp2
    go_ret
    exact ⟨⟨_, EX.out _ (by rw [if_pos HM.out]; rfl), rfl⟩, HB2.out⟩
  | false =>
    have h0 : ¬ m < 0 := of_decide_eq_false HB.out
    have HM := hid h0
    clear h0
    go_wp2
    go_ret
    exact ⟨⟨suf x (j + 3), EX.out _ (by rw [if_neg (Int.not_lt.2 HM.out)]; rfl), by rw [← HT.out]; rfl⟩, HB2.out⟩
end Go.Proofs.Ytegdhffejmbakaa.Dm
