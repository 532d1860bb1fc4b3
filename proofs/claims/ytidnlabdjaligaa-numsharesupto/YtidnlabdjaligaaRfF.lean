/-
  NumShares, walked.
-/
import Derived.Test.YtidnlabdjaligaaRfE
import Derived.ArgAppend
namespace Go.Proofs.Ytidnlabdjaligaa.Ss
open Go.RowKit Go.Deep BigM
set_option linter.unusedVariables false
set_option linter.unusedSimpArgs false
set_option maxHeartbeats 8000000
set_option maxRecDepth 100000
attribute [local go_sem ↓] Go.wp_at_zero Go.wp_at_succ
theorem refSum_all (ws : List Int) (n : Nat) (q : Option Addr) (cap : Nat) (w : World) (hws : ∀ x ∈ ws, Word x) (hl : ws.length = n) (hn : n ≤ 1048576) (hr : Rq w q ws) :
    Calls Try.prog 8 #[.slice q n cap] w fun e w' => e = .returned (.tuple #[.int .u64 (sumV ws), .int .i64 (sumE ws)]) ∧ Below w.heap.size w w' := by
  subst hl
  by_cases h0 : 0 < ws.length
  · obtain ⟨b, off, rfl, hR⟩ := hr h0
    exact refSum_any ws b off cap w hws hn hR
  · obtain rfl : ws = [] := List.length_eq_zero_iff.1 (by omega)
    exact refSum_none q cap w
theorem own_cap {base : Nat} {w : World} {e : TypeId} {q : Option Addr} {n c : Nat} {xs : List Value} (h : w.ownsRow base e 1 (.slice q n c) n xs) : n ≤ c ∧ c ≤ maxLen := by
  obtain ⟨_, ⟨e1, e2⟩ | ⟨g, c', cur, e1, r1, r2, r3, r4, _⟩⟩ := h
  · obtain ⟨_, _, rfl⟩ := Value.slice.inj e1
    exact ⟨by omega, by unfold maxLen; omega⟩
  · obtain ⟨_, _, rfl⟩ := Value.slice.inj e1
    exact ⟨r3, r4⟩
theorem rq_add {w : World} {q : Option Addr} {l : List Int} (h : Rq w q l) : ∀ ad, q = some ad → ∀ j u, (ivw l)[j]? = some u → w.cell? (ad.add j) = some u := fun ad e j u hj => by
  obtain ⟨hl, rfl⟩ := ivw_at hj
  obtain ⟨b, off, rfl, r⟩ := h (by omega)
  injection e with e
  subst e
  rw [Addr.add_lit]
  exact r.2 j hl
theorem rd_two {w : World} (v v' : Value) (t : TypeId) : ∀ ad, (some ⟨w.heap.size, 0, none⟩ : Option Addr) = some ad → ∀ j u, ([v, v'] : List Value)[j]? = some u → (w.alloc (.cells #[v, v'] t)).cell? (ad.add j) = some u := fun ad e j u hj => by
  injection e with e
  subst e
  rw [Addr.add_lit, row_cell (World.alloc_heap_new _ _), ← hj]
  simp
theorem own_head {base : Nat} {w : World} {g n m c : Nat} {l : List Int} {xs : List Value} (hl : l.length = n) (h : w.ownsRow base 22 1 (.slice (some ⟨g, 0, none⟩) m c) m (ivw l ++ xs)) : Rw w g 0 l := by
  obtain ⟨cur, hc⟩ := own_row h
  refine ⟨row_lt hc, fun j hj => ?_⟩
  rw [Nat.zero_add]
  exact own_at h (by rw [List.getElem?_append_left (by rw [ivw_len]; omega)]; exact ivw_get hj)
theorem own_tail {base : Nat} {w : World} {g n m c : Nat} {l : List Int} {x y : Value} (hl : l.length = n) (h : w.ownsRow base 22 1 (.slice (some ⟨g, 0, none⟩) m c) m (ivw l ++ [x, y])) : w.cell? ⟨g, n, none⟩ = some x ∧ w.cell? ⟨g, n + 1, none⟩ = some y := by
  have e : (ivw l).length = n := by rw [ivw_len]; omega
  refine ⟨own_at h ?_, own_at h ?_⟩
  · rw [List.getElem?_append_right (by omega), e]; simp
  · rw [List.getElem?_append_right (by omega), e]; simp
theorem kp_grown {B : Nat → Prop} {X W U : World} {r : Option Nat} (h : Kp B X W) (hg : W.grownBy U r) (hr : ∀ g, r = some g → X.heap.size ≤ g) : Kp B X U :=
  ⟨hg.os.trans h.os, hg.tape.trans h.tape, hg.output.trans h.output, Nat.le_trans h.size hg.size, fun j hj hb => (hg.block j (Nat.lt_of_lt_of_le hj h.size) (fun e => by have := hr j e.symm; omega)).trans (h.obj j hj hb)⟩
theorem kp_on {B : Nat → Prop} {X W U : World} (h : Kp B X W) (hb : Below W.heap.size W U) : Kp B X U :=
  ⟨hb.os.trans h.os, hb.tape.trans h.tape, hb.output.trans h.output, Nat.le_trans h.size hb.size, fun j hj hB => (hb.block j (Nat.lt_of_lt_of_le hj h.size)).trans (h.obj j hj hB)⟩
theorem cell_same {X U : World} {b j : Nat} (e : U.heap[b]? = X.heap[b]?) : U.cell? ⟨b, j, none⟩ = X.cell? ⟨b, j, none⟩ := by simp only [World.cell?, e]
theorem rw_kp {B : Nat → Prop} {X U : World} {b off : Nat} {l : List Int} (h : Rw X b off l) (hk : Kp B X U) (hB : ¬ B b) : Rw U b off l :=
  ⟨Nat.lt_of_lt_of_le h.1 hk.size, fun j hj => (cell_same (hk.obj b h.1 hB)).trans (h.2 j hj)⟩
theorem own_mono {a b : Nat} {w : World} {e : TypeId} {size n : Nat} {v : Value} {xs : List Value} (h : w.ownsRow b e size v n xs) (hab : a ≤ b) : w.ownsRow a e size v n xs := by
  obtain ⟨h1, h2 | ⟨g, c, cur, rfl, r1, r⟩⟩ := h
  · exact ⟨h1, .inl h2⟩
  · exact ⟨h1, .inr ⟨g, c, cur, rfl, Nat.le_trans hab r1, r⟩⟩
theorem own_ge {base : Nat} {w : World} {e : TypeId} {size n : Nat} {v : Value} {xs : List Value} (h : w.ownsRow base e size v n xs) : ∀ g, v.ownBlock = some g → base ≤ g := fun g hg => by
  obtain ⟨_, ⟨rfl, _⟩ | ⟨g', c, cur, rfl, r1, _⟩⟩ := h
  · cases hg
  · simp [Value.ownBlock] at hg; omega
theorem ShR.len {A : Int} {ws : List Int} {e : Int} {l : List Int} (h : ShR A ws e l) : l.length ≤ ws.length := by
  rcases h with ⟨a1, a2, a3, a4, pl, k, _, a5, _⟩ | ⟨a1, a2, a3, rfl⟩ | ⟨a1, a2, rfl⟩
  · rw [a5.len, List.length_map]; exact Nat.le_refl _
  · simp
  · simp
theorem shares_any (A : Int) (ws : List Int) (q : Option Addr) (cap : Nat) (w : World) (hA : Word A) (hws : ∀ x ∈ ws, Word x) (hn : ws.length ≤ 1048576) (hq : q = none → cap = 0) (hr : Rq w q ws) :
    Calls Try.prog 4 #[.int .u64 A, .slice q ws.length cap] w fun e w' => e = .returned (.bool true) ∧ Below w.heap.size w w' := by
  obtain ⟨n, hnn⟩ : ∃ n, ws.length = n := ⟨_, rfl⟩
  have HN := hid hnn
  have HQ := hid (show q = none → n = 0 ∧ cap = 0 from fun e => by
    refine ⟨?_, hq e⟩
    apply Classical.byContradiction
    intro h9
    obtain ⟨b, off, e2, _⟩ := hr (by omega)
    rw [e] at e2
    cases e2)
  have HR := hid hr
  have C6 := hid (show ∀ U g d, Rw U g 0 ws → Calls Try.prog 6 #[.slice (some ⟨g, 0, none⟩) n d] U fun e w' => e = .returned (.tuple #[.int .u64 (sumV ws), .int .i64 (sumE ws)]) ∧ w' = U from fun U g d h => by rw [← hnn]; exact sum_w d U hws (by omega) h)
  have C8 := hid (show ∀ U, Below w.heap.size w U → Calls Try.prog 8 #[.slice q n cap] U fun e w' => e = .returned (.tuple #[.int .u64 (sumV ws), .int .i64 (sumE ws)]) ∧ Below U.heap.size U w' from fun U h => refSum_all ws n q cap U hws hnn (by omega) (hr.on h))
  have C5 := hid (show ∀ U g d, Rw U g 0 ws → Calls Try.prog 5 #[.int .u64 A, .slice (some ⟨g, 0, none⟩) n d] U fun e w' => ∃ p er l, e = .returned (.tuple #[.slice p l.length l.length, .int .i64 er]) ∧ Full w' U.heap.size p l ∧ ShR A ws er l ∧ Below U.heap.size U w' from fun U g d h => share_all A ws n _ d U hA hws hnn (by omega) (fun _ => ⟨g, 0, rfl, h⟩))
  have C9 := hid (show ∀ U er l, ShR A ws er l → Below w.heap.size w U → Calls Try.prog 9 #[.int .u64 A, .slice q n cap] U fun e w' => ∃ p c, e = .returned (.tuple #[.slice p l.length c, .int .i64 er]) ∧ (0 < l.length → ∃ g, p = some ⟨g, 0, none⟩ ∧ U.heap.size ≤ g ∧ Rw w' g 0 l) ∧ Below U.heap.size U w' from fun U er l hk h => refShare_all A ws n q cap U hA hws hnn (by omega) (hr.on h) er l hk)
  rw [hnn] at hn ⊢
  have HLW := hid (show (ivw ws).length = n * 1 from by rw [ivw_len, hnn])
  clear hA hws hr hq hnn
  obtain ⟨W1, hW1⟩ : ∃ W, w.alloc (.cells #[] 22) = W := ⟨_, rfl⟩
  have B1 := hid (show Below w.heap.size w W1 from by rw [← hW1]; exact (Below.refl _ w).alloc (Nat.le_refl _) _)
  have O1 := hid (show W1.ownsRow w.heap.size 22 1 (.slice (some ⟨w.heap.size, 0, none⟩) 0 0) 0 [] from by rw [← hW1]; exact own_empty w)
  have R1 := hid (rq_add (HR.out.on B1.out))
  go_enter Try.func4, Try.ntmps4
  go_upto_region 2 with (first | (at_builtin; refine wpList_app_rd (by rfl) (.tmp 21) (.tmp 22) 23 22 _ 1 8 (by rfl) Try.underlying23 infoW rfl (by decide) w.heap.size _ 0 [] (by rfl) O1.out q cap n (ivw ws) (by rfl) HQ.out HLW.out R1.out (ivw_one _) (by unfold maxLen; omega) (by omega) B1.out.size ?_; intro v2 w2 hown hgrow; have O2 := hid (own_z hown); have B2 := hid (below_app B1.out O1.out hgrow); obtain ⟨q2, d2, rfl⟩ := own_form O2.out; obtain ⟨W3, hW3⟩ : ∃ W, w2.alloc (.cells #[.int .u64 77, .int .u64 78] 22) = W := ⟨_, rfl⟩; have A3 := hid (show Below w2.heap.size w2 W3 from by rw [← hW3]; exact (Below.refl _ _).alloc (Nat.le_refl _) _); have O3 := hid (own_on O2.out A3.out); have B3 := hid (B2.out.trans (A3.out.mono B2.out.size)); have R3 := hid (rd_two (w := w2) (.int .u64 77) (.int .u64 78) 22); rw [hW3] at R3; clear hown hgrow) | (at_builtin; refine wpList_app_rd (by rfl) (.tmp 23) (.tmp 24) 23 22 _ 1 8 (by rfl) Try.underlying23 infoW rfl (by decide) w.heap.size _ n _ (by rfl) O3.out (some ⟨w2.heap.size, 0, none⟩) 2 2 [.int .u64 77, .int .u64 78] (by rfl) (fun e => by cases e) rfl R3.out (fun u hu => by simp at hu; rcases hu with rfl | rfl <;> rfl) (by unfold maxLen; omega) (by omega) B3.out.size ?_; intro v4 w4 hown hgrow; have O4 := hid hown; have B4 := hid (below_app B3.out O3.out hgrow); clear hown hgrow))
  clear hW1 hW3 B1 O1 R1 O2 B2 A3 O3 B3 R3 HLW HQ
  obtain ⟨q4, d4, rfl⟩ := own_form O4.out
  obtain ⟨g4, rfl, b4⟩ := own_addr (by omega) O4.out
  obtain ⟨cp1, cp2⟩ := own_cap O4.out
  have n0 : (0 : Int) ≤ (n : Int) := by omega
  have n1 : (n : Int) ≤ (d4 : Int) := by omega
  have n2 : n ≤ d4 := by omega
  have RW4 := hid (own_head HN.out O4.out)
  go_upto_region 5 with (first | (go_at_call 6; with_reducible refine (C6.out _ _ _ RW4.out).mono ?_; rintro e w9 ⟨rfl, h1⟩; have h1 := h1.symm; subst h1) | (go_at_call 8; with_reducible refine (C8.out _ B4.out).mono ?_; rintro e w5 ⟨rfl, h1⟩; have L5 := hid h1; have B5 := hid (B4.out.trans (h1.mono B4.out.size)); have RW5 := hid (RW4.out.on h1); clear h1))
  clear C6 C8 RW4
  go_upto_region 6 with (go_at_call 5; with_reducible refine (C5.out _ _ _ RW5.out).mono ?_; rintro e w6 ⟨p6, er, l, rfl, h1, h2, h3⟩; have F6 := hid h1; have K6 := hid h2; have L6 := hid h3; have B6 := hid (B5.out.trans (h3.mono B5.out.size)); have RW6 := hid (RW5.out.on h3); clear h1 h2 h3)
  go_upto_region 7 with (go_at_call 5; with_reducible refine (C5.out _ _ _ RW6.out).mono ?_; rintro e w7 ⟨p7, er7, l7, rfl, h1, h2, h3⟩; obtain ⟨e1, e2⟩ := K6.out.uniq h2; subst e1; subst e2; have F7 := hid h1; have L7 := hid h3; have B7 := hid (B6.out.trans (h3.mono B6.out.size)); clear h1 h2 h3)
  have CC9 := hid (C9.out _ _ _ K6.out B7.out)
  go_upto_region 8 with (go_at_call 9; with_reducible refine CC9.out.mono ?_; rintro e w8 ⟨p8, c8, rfl, h1, h2⟩; have F8 := hid h1; have L8 := hid h2; have B8 := hid (B7.out.trans (h2.mono B7.out.size)); clear h1 h2)
  clear C5 C9 CC9
  have GG := hid (show ∀ U, Below w8.heap.size w8 U → Full U w5.heap.size p6 l ∧ Full U w6.heap.size p7 l ∧ (0 < l.length → ∃ g, p8 = some ⟨g, 0, none⟩ ∧ w7.heap.size ≤ g ∧ Rw U g 0 l) ∧ U.ownsRow w.heap.size 22 1 (.slice (some ⟨g4, 0, none⟩) (n + 2) d4) (n + 2) (ivw ws ++ [.int .u64 77, .int .u64 78]) ∧ Rq U q ws from fun U hU =>
    ⟨((F6.out.on L7.out).on L8.out).on hU, (F7.out.on L8.out).on hU, fun h => by obtain ⟨g, e, z, r⟩ := F8.out h; exact ⟨g, e, z, r.on hU⟩, own_on (own_on (own_on (own_on (own_on O4.out L5.out) L6.out) L7.out) L8.out) hU, (HR.out.on B8.out).on hU⟩)
  have GR := hid (show ∀ U, Below w8.heap.size w8 U → Rq U p6 l ∧ Rq U p7 l ∧ Rq U p8 l ∧ Rq U (some ⟨g4, 0, none⟩) ws ∧ Rq U q ws from fun U hU => by
    obtain ⟨a, b, c, d, e⟩ := GG.out U hU
    exact ⟨a.rq, b.rq, fun h => by obtain ⟨g, e, z, r⟩ := c h; exact ⟨g, 0, e, r⟩, fun _ => ⟨g4, 0, rfl, own_head HN.out d⟩, e⟩)
  have HM := hid (show l.length ≤ n from by rw [← HN.out]; exact K6.out.len)
  have HSZ := hid (show w.heap.size ≤ w5.heap.size ∧ g4 < w5.heap.size ∧ w5.heap.size ≤ w6.heap.size ∧ w6.heap.size ≤ w7.heap.size ∧ w7.heap.size ≤ w8.heap.size from ⟨B5.out.size, Nat.lt_of_lt_of_le (own_head HN.out O4.out).1 L5.out.size, L6.out.size, L7.out.size, L8.out.size⟩)
  have H6 := hid (show ∀ b, p6 = some ⟨b, 0, none⟩ → w5.heap.size ≤ b ∧ b < w6.heap.size from fun b e => by
    rcases F6.out with ⟨e2, _⟩ | ⟨g, e2, z, u⟩
    · rw [e] at e2; cases e2
    · rw [e] at e2
      injection e2 with e2
      injection e2 with e2
      subst e2
      exact ⟨z, u.lt⟩)
  obtain ⟨m, hm⟩ : ∃ m, l.length = m := ⟨_, rfl⟩
  have HML := hid hm
  rw [hm] at HM ⊢
  have hmn := HM.out
  have CS := hid (fun U q1 c1 q2 c2 h1 h2 => same_any l m q1 q2 c1 c2 U HML.out (by omega) h1 h2)
  have CW := hid (fun U q1 c1 q2 c2 h1 h2 => same_any ws n q1 q2 c1 c2 U HN.out (by omega) h1 h2)
  clear F6 F7 F8 O4 L5 L6 L7 L8 B4 B5 B6 B7 RW5 RW6 K6 hm
  have x1 : (sumV ws != sumV ws) = false := by simp
  have x2 : (sumE ws != sumE ws) = false := by simp
  have x3 : (er != er) = false := by simp
  go_upto_region 11 with (first | (go_at_call 10; with_reducible refine (CS.out _ p6 _ p8 _ (GR.out _ (Below.refl _ _)).1 (GR.out _ (Below.refl _ _)).2.2.1).mono ?_; rintro e w9 ⟨rfl, h1⟩; have M9 := hid h1; clear h1) | (go_at_call 10; with_reducible refine (CS.out _ p7 _ p8 _ (GR.out _ M9.out).2.1 (GR.out _ M9.out).2.2.1).mono ?_; rintro e w10 ⟨rfl, h1⟩; have M10 := hid (M9.out.trans (h1.mono M9.out.size)); clear h1) | (go_at_call 10; with_reducible refine (CW.out _ _ _ q _ (GR.out _ M10.out).2.2.2.1 (GR.out _ M10.out).2.2.2.2).mono ?_; rintro e X ⟨rfl, h1⟩; have MX := hid (M10.out.trans (h1.mono M10.out.size)); clear h1))
  have FX := hid (GG.out _ MX.out)
  have BX := hid (B8.out.trans (MX.out.mono B8.out.size))
  clear GG GR M9 M10 B8
  have F0 := hid (show ∃ l' : List Int, l'.length = m ∧ Full X w5.heap.size p6 l' from ⟨l, HML.out, FX.out.1⟩)
  have K0 := hid (Kp.refl (fun b => p6 = some ⟨b, 0, none⟩) X)
  go_loopw [17] (fun iv wr => ∃ i, i ≤ m ∧ iv = .int .i64 (i : Nat) ∧ Hid (∃ l' : List Int, l'.length = m ∧ Full wr w5.heap.size p6 l') ∧ Hid (Kp (fun b => p6 = some ⟨b, 0, none⟩) X wr)) (fun iv _ => m - (intOf iv).toNat)
  case atStart => exact ⟨0, Nat.zero_le _, rfl, F0, K0⟩
  case round =>
    clear F0 K0
    obtain ⟨i, him, rfl, F1, K1⟩ := hrel
    by_cases hlt : i < m
    · obtain ⟨l', hl', hf⟩ := F1.out
      rcases hf with ⟨_, rfl⟩ | ⟨g, rfl, zg, ug⟩
      · simp at hl'; omega
      · rw [hl'] at ug
        have c1 := ug.cell hlt
        have f1 := ug.frz i
        have FN := hid (show ∃ l'' : List Int, l''.length = m ∧ Full (wr.setCell ⟨g, i, none⟩ (.int .u64 9)) w5.heap.size (some ⟨g, 0, none⟩) l'' from ⟨l'.set i 9, by rw [List.length_set]; exact hl', .inr ⟨g, rfl, zg, by rw [List.length_set, hl']; exact ug.set hlt 9⟩⟩)
        have KN := hid (K1.out.trans (Kp.set wr g i (.int .u64 9)) (fun k _ e => by rw [e]))
        have i0 : (0 : Int) ≤ (i : Int) := by omega
        have i1 : (i : Int) < (m : Int) := by omega
        have wi : IntKind.i64.wrap ((i : Int) + 1) = ((i + 1 : Nat) : Int) := by rw [IntKind.wrap_i64]; omega
        have HLT := hid hlt
        clear ug F1 K1
        go_wp2
        go_roundw
        case rel => exact ⟨i + 1, HLT.out, by go_num, FN, KN⟩
        case measure => have := HLT.out; simp [intOf]; omega
    · obtain rfl : i = m := by omega
      go_upto_region 15 with fail
      have J0 := hid (show (0 = 0 ∧ (Value.slice p6 i i) = .slice p6 i i ∧ ∃ l' : List Int, l'.length = i ∧ Full wr w5.heap.size p6 l') ∨ (0 < 0 ∧ ∃ xs, wr.ownsRow X.heap.size 22 1 (Value.slice p6 i i) (i + 0) xs) from .inl ⟨rfl, rfl, F1.out⟩)
      go_loopw [11, 18] (fun pv jv wr => ∃ j, j ≤ 20 ∧ jv = .int .i64 (j : Nat) ∧ Hid (Kp (fun b => p6 = some ⟨b, 0, none⟩) X wr) ∧ Hid ((j = 0 ∧ pv = .slice p6 i i ∧ ∃ l' : List Int, l'.length = i ∧ Full wr w5.heap.size p6 l') ∨ (0 < j ∧ ∃ xs, wr.ownsRow X.heap.size 22 1 pv (i + j) xs))) (fun _ jv _ => 20 - (intOf jv).toNat)
      case atStart => exact ⟨0, by omega, rfl, K1, J0⟩
      case round =>
        clear F1 K1 J0
        obtain ⟨j, hj, rfl, KW, JW⟩ := hrel
        by_cases hlj : j < 20
        · have j1 : (j : Int) < 20 := by omega
          have wj : IntKind.i64.wrap ((j : Int) + 1) = ((j + 1 : Nat) : Int) := by rw [IntKind.wrap_i64]; omega
          have HLJ := hid hlj
          obtain ⟨W, hW⟩ : ∃ W, wr.alloc (.cells #[.int .u64 8] 22) = W := ⟨_, rfl⟩
          have AW := hid (show Below wr.heap.size wr W from by rw [← hW]; exact (Below.refl _ _).alloc (Nat.le_refl _) _)
          have RW := hid (rd_one (w := wr) (.int .u64 8) 22)
          rw [hW] at RW
          have KU := hid (kp_on KW.out AW.out)
          rcases JW.out with ⟨rfl, rfl, l', hl', hf⟩ | ⟨hj0, xs, ho⟩
          · have FW := hid (hf.on AW.out)
            have HH := hid (show (p6 = none → i = 0 ∧ i = 0) ∧ (∀ b, p6 = some b → ∀ j u, (ivw l')[j]? = some u → W.cell? (b.add j) = some u) from by
              refine ⟨fun e => ?_, rq_add FW.out.rq⟩
              rcases hf with ⟨_, rfl⟩ | ⟨g, e2, _⟩
              · simp at hl'; exact ⟨hl'.symm, hl'.symm⟩
              · rw [e] at e2; cases e2)
            have HLL := hid (show (ivw l').length = i * 1 from by rw [ivw_len, hl'])
            obtain ⟨i0, hi, hz0, hz1, hz2⟩ := info_parts9 infoW
            have HI := hid (And.intro hi (And.intro hz0 (And.intro hz1 hz2)))
            clear JW hf hl' hi hz0 hz1 hz2
            go_upto_region 16 with (at_builtin; refine wpList_append_grows _ (by rfl) (.tmp 102) (.tmp 103) 23 (by rfl) 22 i0 _ 1 8 Try.underlying23 HI.out.1 HI.out.2.1 HI.out.2.2.1 HI.out.2.2.2 rfl (by decide) p6 i i (ivw l') (by rfl) HH.out.1 HLL.out HH.out.2 ⟨wr.heap.size, 0, none⟩ 1 1 [.int .u64 8] (by rfl) rfl (RW.out _ rfl) (fun u hu => by simp at hu; subst hu; rfl) (by omega) (by unfold maxLen; omega) (by omega) ?_; intro v' w' hown hgrow; have O1 := hid hown; have G1 := hid hgrow; clear hown hgrow)
            have K2 := hid (kp_grown KU.out G1.out (fun g e => by cases e))
            have O2 := hid (own_mono O1.out KU.out.size)
            clear FW HH HLL HI KU O1 G1 AW RW KW
            go_wp2
            go_roundw
            case rel => exact ⟨1, by omega, by go_num, K2, hid (.inr ⟨by omega, _, O2.out⟩)⟩
            case measure => simp [intOf]
          · have OW := hid (own_on ho AW.out)
            obtain ⟨q9, d9, rfl⟩ := own_form ho
            clear JW ho
            have KS := hid (show X.heap.size ≤ W.heap.size from KU.out.size)
            go_upto_region 16 with (at_builtin; refine wpList_app_rd (by rfl) (.tmp 102) (.tmp 103) 23 22 _ 1 8 (by rfl) Try.underlying23 infoW rfl (by decide) X.heap.size _ (i + j) xs (by rfl) OW.out (some ⟨wr.heap.size, 0, none⟩) 1 1 [.int .u64 8] (by rfl) (fun e => by cases e) rfl RW.out (fun u hu => by simp at hu; subst hu; rfl) (by unfold maxLen; omega) (by omega) KS.out ?_; intro v' w' hown hgrow; have O1 := hid hown; have G1 := hid hgrow; clear hown hgrow)
            have K2 := hid (kp_grown KU.out G1.out (own_ge OW.out))
            clear KU G1 AW RW KW OW KS
            go_wp2
            go_roundw
            case rel => exact ⟨j + 1, HLJ.out, by go_num, K2, hid (.inr ⟨by omega, _, O1.out⟩)⟩
            case measure => have := HLJ.out; simp [intOf]; omega
        · obtain rfl : j = 20 := by omega
          have HKP := hid (show ∀ U, Kp (fun b => p6 = some ⟨b, 0, none⟩) X U → Rq U p7 l ∧ Rq U p8 l ∧ Rq U (some ⟨g4, 0, none⟩) ws ∧ Rq U q ws ∧ U.cell? ⟨g4, n, none⟩ = some (.int .u64 77) ∧ U.cell? ⟨g4, n + 1, none⟩ = some (.int .u64 78) from fun U hU => by
            obtain ⟨_, a, b, c, d⟩ := FX.out
            have hs := HSZ.out
            have ho : ¬ p6 = some ⟨g4, 0, none⟩ := fun e => by have := H6.out g4 e; omega
            obtain ⟨cu, hcu⟩ := own_row c
            obtain ⟨t1, t2⟩ := own_tail HN.out c
            refine ⟨fun h => ?_, fun h => ?_, fun _ => ⟨g4, 0, rfl, rw_kp (own_head HN.out c) hU ho⟩, fun h => ?_, (cell_same (hU.obj g4 (row_lt hcu) ho)).trans t1, (cell_same (hU.obj g4 (row_lt hcu) ho)).trans t2⟩
            · rcases a with ⟨_, rfl⟩ | ⟨g, rfl, z, u⟩
              · simp at h
              · exact ⟨g, 0, rfl, rw_kp u.rw hU (fun e => by have := H6.out g e; omega)⟩
            · obtain ⟨g, rfl, z, r⟩ := b h
              exact ⟨g, 0, rfl, rw_kp r hU (fun e => by have := H6.out g e; omega)⟩
            · obtain ⟨b9, off9, rfl, r9⟩ := HR.out h
              obtain ⟨b8, off8, e8, r8⟩ := d h
              injection e8 with e8
              injection e8 with e8 e7
              subst e8
              subst e7
              exact ⟨b9, off9, rfl, rw_kp r8 hU (fun e => by have := H6.out b9 e; have := r9.1; omega)⟩)
          obtain ⟨W, hW⟩ : ∃ W, wr.alloc (.cells #[.int .u64 1, .int .u64 1] 22) = W := ⟨_, rfl⟩
          have AW := hid (show Below wr.heap.size wr W from by rw [← hW]; exact (Below.refl _ _).alloc (Nat.le_refl _) _)
          have KU := hid (kp_on KW.out AW.out)
          have C2 := hid (show Calls Try.prog 6 #[.slice (some ⟨wr.heap.size, 0, none⟩) 2 2] W fun e w' => e = .returned (.tuple #[.int .u64 2, .int .i64 0]) ∧ w' = W from by
            have hrw : Rw W wr.heap.size 0 [1, 1] := by
              rw [← hW]
              refine ⟨by simp, fun k hk => ?_⟩
              simp at hk
              rw [row_cell (World.alloc_heap_new _ _)]
              rcases (show k = 0 ∨ k = 1 by omega) with rfl | rfl <;> rfl
            exact sum_w (ws := [1, 1]) 2 W (fun x hx => by simp at hx; subst hx; exact ⟨by decide, by decide⟩) (by decide) hrw)
          have ni : (n : Int) < (n : Int) + 2 := by omega
          have nj : (n : Int) + 1 < (n : Int) + 2 := by omega
          have wn : IntKind.i64.wrap ((n : Int) + 1) = (n : Int) + 1 := by rw [IntKind.wrap_i64]; omega
          have np : (0 : Int) ≤ (n : Int) + 1 := by omega
          have nt : ((n : Int) + 1).toNat = n + 1 := by omega
          clear KW AW JW FX HR
          go_upto_region 19 with (go_at_call 6; with_reducible refine C2.out.mono ?_; rintro e w9 ⟨rfl, h1⟩; have h1 := h1.symm; subst h1)
          go_wp2_with (first | (go_at_call 10; with_reducible refine (CS.out _ p7 _ p8 _ (HKP.out _ KU.out).1 (HKP.out _ KU.out).2.1).mono ?_; rintro e Y ⟨rfl, h1⟩; have KY := hid (kp_on KU.out h1); clear h1) | (go_at_call 10; with_reducible refine (CW.out _ _ _ q _ (HKP.out _ KY.out).2.2.1 (HKP.out _ KY.out).2.2.2.1).mono ?_; rintro e Z ⟨rfl, h1⟩; have KZ := hid (kp_on KY.out h1); obtain ⟨cz1, cz2⟩ := (HKP.out _ KZ.out).2.2.2.2; clear h1))
          go_ret
          exact ⟨rfl, BX.out.trans (Kp.below KZ.out BX.out.size (fun j hj e => by have h9 := H6.out j e; have h8 := HSZ.out.1; omega))⟩
end Go.Proofs.Ytidnlabdjaligaa.Ss
