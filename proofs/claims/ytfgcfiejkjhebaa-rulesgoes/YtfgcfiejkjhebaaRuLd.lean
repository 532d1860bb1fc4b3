/-
  Load of a book that is told.
-/
import Derived.Test.YtfgcfiejkjhebaaRuSv
import Derived.Test.YtfgcfiejkjhebaaRuGo
namespace Go.Proofs.Ytfgcfiejkjhebaa
open Go.RowKit Go.Deep Go.Shelf
set_option linter.unusedVariables false
set_option linter.unusedSimpArgs false
set_option maxHeartbeats 8000000
set_option maxRecDepth 100000
theorem info67 : (Try.prog.info? 67).map (·.size) = some 6 := by kernel_rfl
theorem load_told {b : Bs} (g : Gb b) (k : Snd b) (Q : Nat) (c : Bs) {base : Nat} {p1 p2 : Option Addr} {c1 c2 : Nat} (w : World) (hq : w.heap[Q]? = some (.cells c.row 67 (0, 0))) (h1 : w.ownsRow base 42 7 (.slice p1 b.l1.length c1) b.l1.length (ors (osl b.l1))) (h2 : w.ownsRow base 42 7 (.slice p2 b.l2.length c2) b.l2.length (ors (osl b.l2))) :
    Calls Try.prog 12 #[.pointer (some ⟨Q, 0, none⟩), .agg (bkv b (.slice p1 b.l1.length c1) (.slice p2 b.l2.length c2))] w fun e w' => e = .returned (.int .i64 0) ∧ ∃ c', Bm w' Q c' ∧ Sm b c' ∧ (∀ j, c'.fp Q j → j = Q ∨ w.heap.size ≤ j) ∧ Kp (fun j => j = Q) w w' := by
  have e1 : (osl b.l1).length = b.l1.length := by simp [osl]
  have e2 : (osl b.l2).length = b.l2.length := by simp [osl]
  have HLEN := hid (show b.l1.length + b.l2.length ≤ 1048576 from g.vb.len)
  obtain ⟨W, hW⟩ : ∃ W, w.alloc (.cells (bkv b (.slice p1 b.l1.length c1) (.slice p2 b.l2.length c2)) 36) = W := ⟨_, rfl⟩
  have hb : Below w.heap.size w W := by rw [← hW]; exact ball _ _
  have hx : W.heap[w.heap.size]? = some (.cells (bkv b (.slice p1 b.l1.length c1) (.slice p2 b.l2.length c2)) 36 (0, 0)) := by rw [← hW]; exact World.alloc_heap_new _ _
  have CV := hid (fun (U : World) (hU : Below W.heap.size W U) => valid_told g k (own_on (own_on h1 hb) hU) (own_on (own_on h2 hb) hU))
  have CO := hid (fun (U : World) (hU : Below W.heap.size W U) => (show Calls Try.prog 28 #[.agg (bkv b (.slice p1 b.l1.length c1) (.slice p2 b.l2.length c2))] U fun e w' => ∃ A a, e = .returned (.pointer (some ⟨A, 0, none⟩)) ∧ Opd U w' A a b.cap b.meet (osl b.l1) (osl b.l2) b.high b.seq from by
    have := opened_any b.cap b.meet p1 c1 (osl b.l1) p2 c2 (osl b.l2) b.high b.seq U (by rw [e1]; exact own_base (own_on (own_on h1 hb) hU) (Nat.zero_le _)) (by rw [e2]; exact own_base (own_on (own_on h2 hb) hU) (Nat.zero_le _)) (by rw [e1, e2]; exact HLEN.out)
    rw [e1, e2] at this
    exact this))
  have HCE := hid (fun (U : World) (hU : Below W.heap.size W U) => bk_cells (row_on hx hU))
  have HQ := hid hq
  have HW := hid hW
  have HB := hid hb
  have HX := hid hx
  clear hq hW hb hx h1 h2 g k e1 e2
  unfold bkv at HW CV CO ⊢
  go_enter Try.func12, Try.ntmps12
  go_upto_region 1 with fail
  have e0 := HW.out
  rw [e0]
  clear e0
  obtain ⟨a0, a1, a2, a3, a4, a5⟩ := HCE.out W (Below.refl _ _)
  go_upto_region 4 with (go_at_call 10; with_reducible refine (CV.out _ (Below.refl _ _)).mono ?_; rintro e w1 ⟨rfl, hb1⟩; obtain ⟨d0, d1, d2, d3, d4, d5⟩ := HCE.out w1 hb1; have HB1 := hid hb1; clear hb1)
  clear a0 a1 a2 a3 a4 a5
  go_wp2_with (first
    | (go_at_call 28; with_reducible refine (CO.out w1 HB1.out).mono ?_; rintro e w2 ⟨A, a, rfl, ho⟩; have HO := hid ho; have HRA := hid ho.bm.row; have HRQ := hid (row_on (row_on HQ.out (btr HB.out HB1.out)) ho.be); clear ho)
    | (refine wpList_load_row (by rfl) 67 (.tmp 18) (by rfl) A (by rfl) 67 a.row (0, 0) _ HRA.out Try.underlying67 rfl info67 ?_)
    | (refine wpList_store_row (by rfl) 67 (.tmp 20) (.tmp 19) (by rfl) Q a.row (by rfl) (by rfl) 67 c.row HRQ.out info67 rfl (by simp [Bs.row, Value.oneCell']) ?_))
  go_ret
  have hAQ : A ≠ Q := by
    have h1 := HO.out.nw A (.inl rfl)
    have h2 := row_lt HQ.out
    have h3 := (btr HB.out HB1.out).size
    omega
  have hnew : ∀ j, a.fp A j → w.heap.size ≤ j := fun j hj => Nat.le_trans (btr HB.out HB1.out).size (HO.out.nw j hj)
  have hQlt := row_lt HQ.out
  refine ⟨rfl, a, ⟨setRow_heap _ _ _ _ 67 (0, 0) HRQ.out, ?_, ?_, HO.out.bm.nd, HO.out.bm.ap⟩, ⟨HO.out.num, HO.out.o1, HO.out.o2⟩, ?_, ?_⟩
  · exact HO.out.bm.li1.kept (setRow_kp _ _ _) (fun j hj e => by have := hnew j (.inr (.inl hj)); omega) (fun x hx e => by have := hnew x.1 (.inr (.inr (.inr (.inl (List.mem_map.2 ⟨x, hx, rfl⟩))))); omega)
  · exact HO.out.bm.li2.kept (setRow_kp _ _ _) (fun j hj e => by have := hnew j (.inr (.inr (.inl hj))); omega) (fun x hx e => by have := hnew x.1 (.inr (.inr (.inr (.inr (List.mem_map.2 ⟨x, hx, rfl⟩))))); omega)
  · rintro j (e | e | e | e | e)
    · exact .inl e
    · exact .inr (hnew j (.inr (.inl e)))
    · exact .inr (hnew j (.inr (.inr (.inl e))))
    · exact .inr (hnew j (.inr (.inr (.inr (.inl e)))))
    · exact .inr (hnew j (.inr (.inr (.inr (.inr e)))))
  · exact (Kp.of _ (btr (btr HB.out HB1.out) HO.out.be)).trans (setRow_kp _ _ _) (fun j _ e => e)
end Go.Proofs.Ytfgcfiejkjhebaa
