/-
  An order is enqueued.
-/
import Derived.Test.YtojmcfkbekodpaaKc
namespace Go.Proofs.Ytojmcfkbekodpaa
open Go.RowKit Go.Deep Go.Shelf
set_option linter.unusedVariables false
set_option linter.unusedSimpArgs false
set_option maxHeartbeats 4000000
set_option maxRecDepth 100000
theorem enqueue_any (B k : Nat) (row : Array Value) (p : Option Addr) (c : Nat) (l : LO) (s : Int) (o : Or) (w : World) (hB : w.heap[B]? = some (.cells row 113 (0, 0))) (hk : row[k]? = some (.slice p l.length c)) (h : Li w p c l) (hn : l.length ≤ 1048576) (ho : Srt s l) :
    Calls Try.prog 77 #[.pointer (some ⟨B, k, none⟩), .int .i64 s, .agg (orow o)] w fun e w' => e = .returned (.tuple #[]) ∧ ∃ p' c' b, w'.heap[B]? = some (.cells (row.setIfInBounds k (.slice p' (l.length + 1) c')) 113 (0, 0)) ∧ Li w' p' c' (ins (bhd s o.pr l) (b, o) l) ∧ w.heap.size ≤ b ∧ (∀ g, OfP p' g → OfP p g ∨ w.heap.size ≤ g) ∧ Kp (fun b => b = B ∨ OfP p b) w w' := by
  obtain ⟨W, hW⟩ : ∃ W, w.alloc (.cells (orow o) 86) = W := ⟨_, rfl⟩
  have hb : Below w.heap.size w W := by rw [← hW]; exact ball _ _
  have hx : W.heap[w.heap.size]? = some (.cells (orow o) 86 (0, 0)) := by rw [← hW]; exact World.alloc_heap_new _ _
  have CB := hid (fun U (hU : Below W.heap.size W U) => behind_any s o.pr p c l U ((h.on hb).on hU) hn ho)
  have hBW := row_on hB hb
  have cB := (row_cell hBW k).trans hk
  have cx := row_cell hx 3
  simp only [orow, List.getElem?_toArray, List.getElem?_cons_succ, List.getElem?_cons_zero] at cx
  have HW := hid hW
  have HB := hid hBW
  have HX := hid hx
  have HL := hid (h.on hb)
  have HO := hid ho
  have HBB := hid hb
  have HK := hid hk
  clear hW hb hx hB hBW hk h ho
  unfold orow
  go_enter Try.func77, Try.ntmps77
  go_wp2_with fail
  have e0 := HW.out
  unfold orow at e0
  rw [e0]
  clear e0
  have K75 := hid (fun (U : World) (vb : Nat) (hU : Below W.heap.size W U) (hv : U.heap[vb]? = some (.cells #[pv w.heap.size] 100 (0, 0))) (hvb : W.heap.size ≤ vb) =>
    (insert_any p c l (bhd s o.pr l) (w.heap.size, o) vb U (HL.out.on hU) (bhd_le _ _ _) hn hv (fun e => by
      obtain ⟨cur, hc⟩ := HL.out.ty e
      have := row_lt hc
      omega) (row_on HX.out hU)).mono (R' := fun e w' => ∃ p' c', e = .returned (.slice p' (l.length + 1) c') ∧ w'.heap[B]? = some (.cells row 113 (0, 0)) ∧ Li w' p' c' (ins (bhd s o.pr l) (w.heap.size, o) l) ∧ (∀ g, OfP p' g → OfP p g ∨ w.heap.size ≤ g) ∧ Kp (OfP p) w w') (fun e w' h => by
        obtain ⟨p', c', rfl, h1, h2, h3⟩ := h
        have hwU : Below w.heap.size w U := btr HBB.out hU
        refine ⟨p', c', by rw [ins_len (bhd_le _ _ _)], h3.row (row_on HB.out hU) (fun e => ?_), h1, fun g hg => (h2 g hg).imp id (fun h => Nat.le_trans hwU.size h), (Kp.of _ hwU).trans h3 (fun _ _ h => h)⟩
        obtain ⟨cur, hc⟩ := HL.out.ty e
        exact row_ne HB.out hc (by decide) rfl))
  have K1 := hid (fun (w1 : World) (hb1 : Below W.drew.heap.size W.drew w1) => K75.out (w1.alloc (.cells #[.pointer (some ⟨w.heap.size, 0, none⟩)] 100)) w1.heap.size (btr (btr (bdrew1 W) hb1) (ball _ _)) (World.alloc_heap_new _ _) hb1.size)
  have K2 := hid (fun (w1 : World) (hb1 : Below (W.alloc (.cells #[.pointer (some ⟨w.heap.size, 0, none⟩)] 100)).drew.heap.size (W.alloc (.cells #[.pointer (some ⟨w.heap.size, 0, none⟩)] 100)).drew w1) => K75.out w1 W.heap.size (btr (btr (ball W _) (bdrew1 _)) hb1) (row_on (w := (W.alloc (.cells #[.pointer (some ⟨w.heap.size, 0, none⟩)] 100)).drew) (World.alloc_heap_new W _) hb1) (Nat.le_refl _))
  have HCB := hid (fun (U : World) (hU : Below W.heap.size W U) => (row_cell (row_on HB.out hU) k).trans HK.out)
  clear K75
  have sB := row_lt HB.out
  have sX := row_lt HX.out
  have nB : B ≠ W.heap.size := by omega
  have nX : w.heap.size ≠ W.heap.size := by omega
  go_region_with (first
    | (go_at_call 36; refine (CB.out _ (by first | exact bdrew1 _ | exact btr (bdrew1 _) (ball _ _) | exact btr (ball _ _) (bdrew1 _))).mono ?_; rintro e w1 ⟨rfl, hb1⟩; have cB1 := hid (HCB.out w1 (by first | exact btr (bdrew1 _) hb1 | exact btr (btr (bdrew1 _) (ball _ _)) hb1 | exact btr (btr (ball _ _) (bdrew1 _)) hb1)); have cB1 := cB1.out; have nB1 : B ≠ w1.heap.size := (by have := hb1.size; simp at this; omega); have sB1 : B < w1.heap.size := (by have := hb1.size; simp at this; omega); have nX1 : w.heap.size ≠ w1.heap.size := (by have := hb1.size; simp at this; omega))
    | (go_at_call 88; with_reducible refine (K1.out w1 hb1).mono ?_; rintro e w2 ⟨p', c', rfl, hB2, h1, h2, h3⟩; have c2 := (row_cell hB2 k).trans HK.out; have f2 := row_frz hB2 k; have HB2 := hid hB2; have H1 := hid h1; have H2 := hid h2; have H3 := hid h3; clear hB2 h1 h2 h3)
    | (go_at_call 88; with_reducible refine (K2.out w1 hb1).mono ?_; rintro e w2 ⟨p', c', rfl, hB2, h1, h2, h3⟩; have c2 := (row_cell hB2 k).trans HK.out; have f2 := row_frz hB2 k; have HB2 := hid hB2; have H1 := hid h1; have H2 := hid h2; have H3 := hid h3; clear hB2 h1 h2 h3))
  all_goals go_end0
  all_goals exact ⟨rfl, p', c', w.heap.size, set_row _ HB2.out, li_set H1.out HB2.out (by decide) (by decide), Nat.le_refl _, H2.out, (H3.out.mono (fun _ _ h => Or.inr h)).trans (Kp.set _ _ _ _) (fun g _ h => .inl h)⟩
end Go.Proofs.Ytojmcfkbekodpaa
