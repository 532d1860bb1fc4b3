/-
  What a publisher shows; the document's first levels; the law's copies.
-/
import Derived.Test.YtiphgfghdbmlcaaFeN
namespace Go.Proofs.Ytiphgfghdbmlcaa
open Go.RowKit Go.Deep
set_option linter.unusedVariables false
set_option linter.unusedSimpArgs false
set_option maxHeartbeats 2000000
set_option maxRecDepth 100000
theorem pictureP_any (B : Nat) (d sq : Int) (p1 p2 : Option Addr) (c1 c2 : Nat) (l1 l2 : List Lv) (w : World) (hB : w.heap[B]? = some (.cells #[.int .i64 d, .int .u64 sq, .slice p1 l1.length c1, .slice p2 l2.length c2] 77 (0, 0))) (h1 : Rl w p1 c1 l1) (h2 : Rl w p2 c2 l2) (b1 : l1.length * 24 ≤ 140737488355328) (b2 : l2.length * 24 ≤ 140737488355328) :
    Calls Try.prog 15 #[.pointer (some ⟨B, 0, none⟩)] w fun e w' => ∃ q1 d1 q2 d2, e = .returned (.agg #[.int .u64 sq, .slice q1 l1.length d1, .slice q2 l2.length d2]) ∧ Lo w.heap.size w' q1 d1 l1 ∧ Lo w.heap.size w' q2 d2 l2 ∧ (∀ g, OfP q1 g → ¬ OfP q2 g) ∧ Below w.heap.size w w' := by
  obtain ⟨R, hR⟩ : ∃ R, w.heap.size = R := ⟨_, rfl⟩
  obtain ⟨n1, hn1⟩ : ∃ n, l1.length = n := ⟨_, rfl⟩
  obtain ⟨n2, hn2⟩ : ∃ n, l2.length = n := ⟨_, rfl⟩
  obtain ⟨W, hW⟩ : ∃ W, w.alloc (.cells #[.int .u64 0, .slice none 0 0, .slice none 0 0] 30) = W := ⟨_, rfl⟩
  have hb0 : Below w.heap.size w W := by rw [← hW]; exact ball _ _
  have hsz : W.heap.size = R + 1 := by rw [← hW, ← hR]; simp
  have HB := hid hb0
  have HZ := hid (show W.heap[R]? = some (.cells #[.int .u64 0, .slice none 0 0, .slice none 0 0] 30 (0, 0)) from by rw [← hW, ← hR]; exact World.alloc_heap_new _ _)
  have HW := hid hW
  have HR := hid hR
  have HS := hid hsz
  have C := hid (copied_any sq p1 p2 c1 c2 l1 l2 W (h1.on hb0) (h2.on hb0) b1 b2)
  obtain ⟨k0, k1, k2, k3⟩ := row4 (row_on hB hb0)
  rw [hn1, hn2] at C
  rw [hn1] at k2
  rw [hn2] at k3
  rw [hn1, hn2]
  clear h1 h2 b1 b2 hb0 hB hsz hW hR hn1 hn2
  go_enter Try.func15, Try.ntmps15
  go_upto_region 1 with fail
  rw [HW.out, HR.out]
  go_wp2_with (go_at_call 34; with_reducible refine (C.out).mono ?_; rintro e w1 ⟨q1, d1, q2, d2, rfl, hl1, hl2, ha, hb⟩; have HL1 := hid hl1; have HL2 := hid hl2; have HA := hid ha; have HB1 := hid hb; have HZ1 := hid (row_on HZ.out hb); clear hl1 hl2 ha hb; refine Hid.out ?_)
  have AI := hid (show (Try.prog.info? 30).map (·.size) = some (#[.int .u64 sq, .slice q1 n1 d1, .slice q2 n2 d2] : Array Value).size from infoP)
  have AS := hid (show (#[.int .u64 0, .slice none 0 0, .slice none 0 0] : Array Value).size = (#[.int .u64 sq, .slice q1 n1 d1, .slice q2 n2 d2] : Array Value).size from rfl)
  have AA := hid (show (#[.int .u64 sq, .slice q1 n1 d1, .slice q2 n2 d2] : Array Value).all (·.oneCell') = true from by simp [Value.oneCell'])
  refine hid ?_
  go_wp2_with (refine wpList_store_row (by rfl) 30 (.tmp 2) (.tmp 7) (by rfl) R #[.int .u64 sq, .slice q1 n1 d1, .slice q2 n2 d2] (by rfl) (by rfl) 30 _ HZ1.out AI.out AS.out AA.out ?_)
  refine bodyPost_ret (results_cell_row (fn := Try.f15) Try.results15 _ _ R 30 #[.int .u64 sq, .slice q1 n1 d1, .slice q2 n2 d2] (0, 0) _ (by rfl) (setRow_heap _ _ _ _ 30 (0, 0) HZ1.out) Try.underlying30 rfl infoP) rfl ⟨q1, d1, q2, d2, rfl, ?_, ?_, HA.out, ?_⟩
  · exact (HL1.out.setRow (by have := HS.out; omega)).base HB.out.size
  · exact (HL2.out.setRow (by have := HS.out; omega)).base HB.out.size
  · exact setRow_below (btr HB.out HB1.out) (by have := HR.out; omega)
theorem rfirst_any (d : Nat) (p : Option Addr) (c : Nat) (l : List Lv) (w : World) (h : Rl w p c l) (hd : d ≤ 64) :
    Calls Try.prog 32 #[.slice p l.length c, .int .i64 d] w fun e w' => ∃ p' c', e = .returned (.slice p' (l.take d).length c') ∧ Lo w.heap.size w' p' c' (l.take d) ∧ Below w.heap.size w w' := by
  have HL := hid (fun (U : World) (hU : Below w.heap.size w U) => (h.take d).on hU)
  have HX := hid (lvc_len (l.take d))
  have hl : (l.take d).length = min d l.length := by simp
  have HM0 := hid (made0 (w := w) w 89 3 (Nat.le_refl _))
  have hcap := h.cap
  have hmax := h.max
  have hmx := h.max
  unfold maxLen at hmax
  cases p with
  | none =>
    obtain ⟨rfl, rfl⟩ := h.nil rfl
    simp only [List.take_nil, List.length_nil, lvc_nil] at HL HX ⊢
    clear h hl
    have HQ := hid (show (none : Option Addr) = none → 0 = 0 ∧ 0 = 0 from fun _ => ⟨rfl, rfl⟩)
    have hd0 : 0 < d ∨ d = 0 := by omega
    rcases hd0 with hd0 | rfl
    all_goals
      go_enter Try.func32, Try.ntmps32
      go_wp2_with (at_builtin; refine wpList_app_rd (by rfl) (.tmp 11) (.tmp 14) 28 89 _ 3 24 (by rfl) Try.underlying28 infoL3 rfl (by decide) w.heap.size _ 0 [] (by rfl) HM0.out none 0 0 [] (by rfl) (fun _ => ⟨rfl, rfl⟩) (by simp) (fun ad e => by cases e) (fun u hu => by cases hu) (by unfold maxLen; omega) (by omega) (by simp) ?_; intro v' w' hown hgrow; obtain ⟨p1, q1, rfl⟩ := own_form hown; have HO1 := hid hown; have HG1 := hid hgrow; clear hown hgrow)
      go_ret
      have hO := HO1.out
      simp only [Nat.zero_add, List.nil_append] at hO ⊢
      exact ⟨p1, q1, by simp, hO, below_grown (base := 0) (ball _ _) HM0.out HG1.out⟩
  | some ad =>
    obtain ⟨n, hn⟩ : ∃ n, l.length = n := ⟨_, rfl⟩
    obtain ⟨m, hm⟩ : ∃ m, min d n = m := ⟨_, rfl⟩
    have HT := hid (show (l.take d).length = m from by rw [hl, hn, hm])
    rw [HT.out] at HX
    rw [hl, hn, hm]
    rw [hn] at hcap
    clear h hl hn
    by_cases hdn : n < d
    · obtain rfl : n = m := by omega
      clear hm
      go_enter Try.func32, Try.ntmps32
      go_wp2_with (at_builtin; refine wpList_app_rd (by rfl) (.tmp 11) (.tmp 14) 28 89 _ 3 24 (by rfl) Try.underlying28 infoL3 rfl (by decide) w.heap.size _ 0 [] (by rfl) HM0.out (some ad) c n (lvc (l.take d)) (by rfl) (fun e => by cases e) HX.out (HL.out _ (ball _ _)).get (lvc_one _) (by omega) (by omega) (by simp) ?_; intro v' w' hown hgrow; obtain ⟨p1, q1, rfl⟩ := own_form hown; have HO1 := hid hown; have HG1 := hid hgrow; clear hown hgrow)
      go_ret
      have hO := HO1.out
      simp only [Nat.zero_add, List.nil_append] at hO ⊢
      refine ⟨p1, q1, by simp, ?_, below_grown (base := 0) (ball _ _) HM0.out HG1.out⟩
      unfold Lo; rw [HT.out]; exact hO
    · obtain rfl : d = m := by omega
      have hdn' : d ≤ n := by omega
      have hdi : (d : Int) ≤ (c : Int) := by omega
      have hdc : d ≤ c := by omega
      clear hm
      go_enter Try.func32, Try.ntmps32
      go_wp2_with (at_builtin; refine wpList_app_rd (by rfl) (.tmp 11) (.tmp 14) 28 89 _ 3 24 (by rfl) Try.underlying28 infoL3 rfl (by decide) w.heap.size _ 0 [] (by rfl) HM0.out (some ad) c d (lvc (l.take d)) (by rfl) (fun e => by cases e) HX.out (HL.out _ (ball _ _)).get (lvc_one _) (by omega) (by omega) (by simp) ?_; intro v' w' hown hgrow; obtain ⟨p1, q1, rfl⟩ := own_form hown; have HO1 := hid hown; have HG1 := hid hgrow; clear hown hgrow)
      go_ret
      have hO := HO1.out
      simp only [Nat.zero_add, List.nil_append] at hO ⊢
      refine ⟨p1, q1, by simp, ?_, below_grown (base := 0) (ball _ _) HM0.out HG1.out⟩
      unfold Lo; rw [HT.out]; exact hO
end Go.Proofs.Ytiphgfghdbmlcaa
