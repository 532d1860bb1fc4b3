/-
  What Bear leans on: funds that came in, the lesser of two, sums, what is shared, covers compared.
-/
import Derived.Test.YtkmlhchkidddmaaRfF
namespace Go.Proofs.Ytkmlhchkidddmaa.Ss
open Go.RowKit Go.Deep BigM
set_option linter.unusedVariables false
set_option linter.unusedSimpArgs false
set_option maxHeartbeats 8000000
set_option maxRecDepth 100000
attribute [local go_sem ↓] Go.wp_at_zero Go.wp_at_succ
/-- a fund: whose, and how much. -/
structure Fd where
  mb : Int
  ct : Int
/-- funds that may be read. -/
def Fz (w : World) (q : Option Addr) (l : List Fd) : Prop := ∀ i (h : i < l.length), ∃ b off, q = some ⟨b, off, none⟩ ∧ b < w.heap.size ∧ w.cell? ⟨b, off + i * 2, none⟩ = some (.int .u32 l[i].mb) ∧ w.cell? ⟨b, off + i * 2 + 1, none⟩ = some (.int .u64 l[i].ct)
theorem Fz.on {w w' : World} {q : Option Addr} {l : List Fd} (h : Fz w q l) (hb : Below w.heap.size w w') : Fz w' q l := fun i hi => by
  obtain ⟨b, off, e, hl, h1, h2⟩ := h i hi
  exact ⟨b, off, e, Nat.lt_of_lt_of_le hl hb.size, (hb.cell (p := ⟨b, off + i * 2, none⟩) hl).trans h1, (hb.cell (p := ⟨b, off + i * 2 + 1, none⟩) hl).trans h2⟩
def cts (l : List Fd) : List Int := l.map Fd.ct
theorem cts_len (l : List Fd) : (cts l).length = l.length := by simp [cts]
theorem cts_gd {l : List Fd} {i : Nat} (h : i < l.length) : gd (cts l) i = l[i].ct := by
  rw [gd_get (by rw [cts_len]; exact h)]
  simp [cts]
def mn (a b : Int) : Int := if a < b then a else b
theorem mn_min (a b : Int) : min a b = mn a b := by unfold mn; split <;> omega
theorem mn_bd {a b : Int} (ha : 0 ≤ a) (hb : 0 ≤ b) : 0 ≤ mn a b ∧ mn a b ≤ a ∧ mn a b ≤ b := by unfold mn; split <;> omega
theorem lesser_any (a b : Int) (w : World) : Calls Try.prog 10 #[.int .u64 a, .int .u64 b] w fun e w' => e = .returned (.int .u64 (mn a b)) ∧ w' = w := by
  unfold mn
  by_cases h : a < b
  · rw [if_pos h]
    have e1 : decide (a < b) = true := decide_eq_true h
    go_enter Try.func10, Try.ntmps10
    go_wp2
    go_ret
    exact ⟨rfl, rfl⟩
  · rw [if_neg h]
    have e1 : decide (a < b) = false := decide_eq_false h
    go_enter Try.func10, Try.ntmps10
    go_wp2
    go_ret
    exact ⟨rfl, rfl⟩
theorem refAdd_any (a b : Int) (w : World) (ha : Word a) (hb : Word b) :
    Calls Try.prog 9 #[.int .u64 a, .int .u64 b] w fun e w' => e = .returned (.tuple #[.int .u64 (wordV (a + b)), .int .i64 (wordE (a + b))]) ∧ Below w.heap.size w w' := by
  have C1 := hid (fun U => of_any a U ha)
  have C2 := hid (fun U => of_any b U hb)
  have HX := hid (show a < pw 1000 ∧ b < pw 1000 from by have := ha.2; have := hb.2; have := pw4; omega)
  clear ha hb
  go_enter Try.func9, Try.ntmps9
  go_wp2_with (first | (go_at_call 17; with_reducible refine (C1.out _).mono ?_; rintro e w1 ⟨⟨u1, rfl, h1⟩, h2⟩; have H1 := hid h1; have H2 := hid h2; clear h1 h2 C1) | (go_at_call 17; with_reducible refine (C2.out _).mono ?_; rintro e w2 ⟨⟨u2, rfl, h1⟩, h2⟩; have H3 := hid h1; have H4 := hid h2; clear h1 h2 C2) | (go_at_call 16; with_reducible refine (plus_any _ _ _ _ _ (H1.out.to H4.out) H3.out HX.out.1 HX.out.2).mono ?_; rintro e w3 ⟨⟨u3, rfl, h1⟩, h2⟩; have H5 := hid h1; have H6 := hid h2; clear h1 h2) | (go_at_call 15; with_reducible refine (word_any _ _ _ H5.out).mono ?_; rintro e w9 ⟨rfl, h1⟩; have h1 := h1.symm; subst h1))
  go_ret2
  exact ⟨rfl, H2.out.trans ((H4.out.trans (H6.out.mono H4.out.size)).mono H2.out.size)⟩
/-- how what is left is shared. -/
def Shd (x : Int) (ws l : List Int) : Prop := (0 < sumL ws ∧ ShR x ws 0 l) ∨ (sumL ws = 0 ∧ l = List.replicate ws.length 0)
theorem Shd.uniq {x : Int} {ws l l' : List Int} (h : Shd x ws l) (h' : Shd x ws l') : l = l' := by
  rcases h with ⟨a1, a2⟩ | ⟨a1, a2⟩ <;> rcases h' with ⟨b1, b2⟩ | ⟨b1, b2⟩
  · exact (a2.uniq b2).2
  · omega
  · omega
  · rw [a2, b2]
theorem ShR.len0 {x : Int} {ws l : List Int} (h : ShR x ws 0 l) : l.length = ws.length := by
  rcases h with ⟨a1, a2, a3, a4, pl, k, _, a5, _⟩ | ⟨a1, a2, a3, rfl⟩ | ⟨a1, a2, rfl⟩
  · rw [a5.len, List.length_map]
  · exfalso; split at a3 <;> omega
  · omega
theorem Shd.len {x : Int} {ws l : List Int} (h : Shd x ws l) : l.length = ws.length := by
  rcases h with ⟨a1, a2⟩ | ⟨a1, rfl⟩
  · exact a2.len0
  · simp
theorem shared_any (A : Int) (ws : List Int) (n g : Nat) (w : World) (hA : Word A) (hws : ∀ x ∈ ws, Word x) (hl : ws.length = n) (hn : n ≤ 17592186044416) (hr : Uw w g n ws) (hS : sumL ws < 18446744073709551616) :
    Calls Try.prog 8 #[.int .u64 A, .slice (some ⟨g, 0, none⟩) n n] w fun e w' => ∃ g' l, e = .returned (.slice (some ⟨g', 0, none⟩) n n) ∧ w.heap.size ≤ g' ∧ Uw w' g' n l ∧ Shd A ws l ∧ Below w.heap.size w w' := by
  have C := hid (share_all A ws n (some ⟨g, 0, none⟩) n w hA hws hl (by omega) (fun _ => ⟨g, 0, rfl, hr.rw⟩))
  have HG := hid (sumL_nonneg ws (fun x hx => (hws x hx).1))
  have HL := hid hl
  have HS := hid hS
  have hmk := make_w n hn
  clear hA hws hl hr hS
  go_enter Try.func8, Try.ntmps8
  go_upto_region 2 with (go_at_call 14; with_reducible refine C.out.mono ?_; rintro e w1 ⟨p, er, l, rfl, h1, h2, h3⟩; have H1 := hid h1; have H2 := hid h2; have H3 := hid h3; clear h1 h2 h3 C)
  by_cases h0 : er = 0
  · subst h0
    have HL2 := hid (H2.out.len0)
    have HP := hid (show 0 < sumL ws from by
      rcases H2.out with ⟨a1, a2, _⟩ | ⟨a1, a2, a3, _⟩ | ⟨_, a2, _⟩
      · exact a2
      · exfalso; split at a3 <;> omega
      · omega)
    obtain ⟨g', rfl, hg', ug⟩ : ∃ g', p = some ⟨g', 0, none⟩ ∧ w.heap.size ≤ g' ∧ Uw w1 g' l.length l := by
      rcases H1.out with ⟨_, rfl⟩ | ⟨g', e, z, u⟩
      · exfalso
        have h1 := HL2.out
        have h2 := HP.out
        have h3 : ws = [] := List.length_eq_zero_iff.1 (by simpa using h1.symm)
        subst h3
        simp [sumL] at h2
      · exact ⟨g', e, z, u⟩
    have e1 : l.length = n := by rw [HL2.out, HL.out]
    rw [e1] at ug ⊢
    have UG := hid ug
    have HG' := hid hg'
    clear ug hg' e1 H1
    go_wp2
    go_ret
    exact ⟨g', l, rfl, HG'.out, UG.out, .inl ⟨HP.out, H2.out⟩, H3.out⟩
  · have hz : sumL ws = 0 := by
      have := HG.out
      have := HS.out
      rcases H2.out with ⟨a1, a2, a3, a4, _⟩ | ⟨a1, a2, a3, _⟩ | ⟨a1, _⟩
      · exact absurd a4 h0
      · omega
      · have h3 : ws = [] := List.length_eq_zero_iff.1 a1
        subst h3
        rfl
    have HZ := hid hz
    have e0 : (er != 0) = true := by simp [h0]
    have m1 := hmk w1
    obtain ⟨W2, hW2⟩ : ∃ W, w1.alloc (.cells (madeCells #[.int .u64 0] n) 22) = W := ⟨_, rfl⟩
    have UW := hid (show Uw W2 w1.heap.size n (List.replicate n 0) from by rw [← hW2]; exact uw_made w1 n)
    have BW := hid (show Below w.heap.size w W2 from by rw [← hW2]; exact H3.out.alloc H3.out.size _)
    rw [hW2] at m1
    clear hz h0 hmk hW2
    go_wp2
    go_ret
    exact ⟨w1.heap.size, _, rfl, H3.out.size, UW.out, .inr ⟨HZ.out, by rw [HL.out]⟩, BW.out⟩
theorem cover_any (o h lf : Int) (l : List Int) (n : Nat) (q1 q2 : Option Addr) (c1 c2 : Nat) (w : World) (hn : l.length = n) (hm : n ≤ 17592186044416) (h1 : Rq w q1 l) (h2 : Rq w q2 l) :
    Calls Try.prog 6 #[.agg #[.int .u64 o, .int .u64 h, .slice q1 n c1, .int .u64 lf], .agg #[.int .u64 o, .int .u64 h, .slice q2 n c2, .int .u64 lf]] w fun e w' => e = .returned (.bool true) ∧ Below w.heap.size w w' := by
  obtain ⟨W1, hW1⟩ : ∃ W, w.alloc (.cells #[.int .u64 o, .int .u64 h, .slice q1 n c1, .int .u64 lf] 26) = W := ⟨_, rfl⟩
  obtain ⟨W2, hW2⟩ : ∃ W, W1.alloc (.cells #[.int .u64 o, .int .u64 h, .slice q2 n c2, .int .u64 lf] 26) = W := ⟨_, rfl⟩
  have b1 : Below w.heap.size w W1 := by rw [← hW1]; exact (Below.refl _ w).alloc (Nat.le_refl _) _
  have b2 : Below W1.heap.size W1 W2 := by rw [← hW2]; exact (Below.refl _ W1).alloc (Nat.le_refl _) _
  have B2 := hid (show Below w.heap.size w W2 from b1.trans (b2.mono b1.size))
  have C := hid (same_any l n q1 q2 c1 c2 W2 hn hm (h1.on B2.out) (h2.on B2.out))
  have r1 : W2.heap[w.heap.size]? = some (.cells #[.int .u64 o, .int .u64 h, .slice q1 n c1, .int .u64 lf] 26 (0, 0)) := by
    rw [b2.block _ (by rw [← hW1]; simp), ← hW1]; exact World.alloc_heap_new _ _
  have r2 : W2.heap[W1.heap.size]? = some (.cells #[.int .u64 o, .int .u64 h, .slice q2 n c2, .int .u64 lf] 26 (0, 0)) := by
    rw [← hW2]; exact World.alloc_heap_new _ _
  have R1 := hid r1
  have R2 := hid r2
  clear hn h1 h2 b1 b2 r1 r2
  go_enter Try.func6, Try.ntmps6
  go_upto_region 1 with fail
  have a0 := row_cell R1.out 0
  have a1 := row_cell R1.out 1
  have a2 := row_cell R1.out 2
  have a3 := row_cell R1.out 3
  have d0 := row_cell R2.out 0
  have d1 := row_cell R2.out 1
  have d2 := row_cell R2.out 2
  have d3 := row_cell R2.out 3
  simp at a0 a1 a2 a3 d0 d1 d2 d3
  have x0 : (o == o) = true := by simp
  have x1 : (h == h) = true := by simp
  have x2 : (lf == lf) = true := by simp

  go_wp2_with (go_at_call 12; with_reducible refine C.out.mono ?_; rintro e w3 ⟨rfl, h1⟩; have H3 := hid h1; clear h1)
  go_ret
  exact ⟨rfl, B2.out.trans (H3.out.mono B2.out.size)⟩
end Go.Proofs.Ytkmlhchkidddmaa.Ss
