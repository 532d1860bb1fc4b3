/-
  What a publisher shows; the document's first levels; the law's copies.
-/
import Derived.Test.YtojmcfkbekodpaaKm
namespace Go.Proofs.Ytojmcfkbekodpaa.Fd
open Go.RowKit Go.Deep
set_option linter.unusedVariables false
set_option linter.unusedSimpArgs false
set_option maxHeartbeats 2000000
set_option maxRecDepth 100000
theorem pictureP_any (B : Nat) (d sq : Int) (p1 p2 : Option Addr) (c1 c2 : Nat) (l1 l2 : List Lv) (w : World) (hB : w.heap[B]? = some (.cells #[.int .i64 d, .int .u64 sq, .slice p1 l1.length c1, .slice p2 l2.length c2] 73 (0, 0))) (h1 : Rl w p1 c1 l1) (h2 : Rl w p2 c2 l2) (b1 : l1.length * 24 ≤ 140737488355328) (b2 : l2.length * 24 ≤ 140737488355328) :
    Calls Try.prog 13 #[.pointer (some ⟨B, 0, none⟩)] w fun e w' => ∃ q1 d1 q2 d2, e = .returned (.agg #[.int .u64 sq, .slice q1 l1.length d1, .slice q2 l2.length d2]) ∧ Lo w.heap.size w' q1 d1 l1 ∧ Lo w.heap.size w' q2 d2 l2 ∧ (∀ g, OfP q1 g → ¬ OfP q2 g) ∧ Below w.heap.size w w' := by
  obtain ⟨R, hR⟩ : ∃ R, w.heap.size = R := ⟨_, rfl⟩
  obtain ⟨n1, hn1⟩ : ∃ n, l1.length = n := ⟨_, rfl⟩
  obtain ⟨n2, hn2⟩ : ∃ n, l2.length = n := ⟨_, rfl⟩
  obtain ⟨W, hW⟩ : ∃ W, w.alloc (.cells #[.int .u64 0, .slice none 0 0, .slice none 0 0] 49) = W := ⟨_, rfl⟩
  have hb0 : Below w.heap.size w W := by rw [← hW]; exact ball _ _
  have hsz : W.heap.size = R + 1 := by rw [← hW, ← hR]; simp
  have HB := hid hb0
  have HZ := hid (show W.heap[R]? = some (.cells #[.int .u64 0, .slice none 0 0, .slice none 0 0] 49 (0, 0)) from by rw [← hW, ← hR]; exact World.alloc_heap_new _ _)
  have HW := hid hW
  have HR := hid hR
  have HS := hid hsz
  have C := hid (copied_any sq p1 p2 c1 c2 l1 l2 W (h1.on hb0) (h2.on hb0) b1 b2)
  obtain ⟨k0, k1, k2, k3⟩ := row4 (row_on hB hb0)
  rw [hn1, hn2] at C
  rw [hn1] at k2
  rw [hn2] at k3
  rw [hn1, hn2]
  clear h1 h2 b1 b2 hb0 hB hsz hW hR hn1 hn2
  go_enter Try.func13, Try.ntmps13
  go_upto_region 1 with fail
  rw [HW.out, HR.out]
  go_wp2_with (go_at_call 38; with_reducible refine (C.out).mono ?_; rintro e w1 ⟨q1, d1, q2, d2, rfl, hl1, hl2, ha, hb⟩; have HL1 := hid hl1; have HL2 := hid hl2; have HA := hid ha; have HB1 := hid hb; have HZ1 := hid (row_on HZ.out hb); clear hl1 hl2 ha hb; refine Hid.out ?_)
  have AI := hid (show (Try.prog.info? 49).map (·.size) = some (#[.int .u64 sq, .slice q1 n1 d1, .slice q2 n2 d2] : Array Value).size from infoP)
  have AS := hid (show (#[.int .u64 0, .slice none 0 0, .slice none 0 0] : Array Value).size = (#[.int .u64 sq, .slice q1 n1 d1, .slice q2 n2 d2] : Array Value).size from rfl)
  have AA := hid (show (#[.int .u64 sq, .slice q1 n1 d1, .slice q2 n2 d2] : Array Value).all (·.oneCell') = true from by simp [Value.oneCell'])
  refine hid ?_
  go_wp2_with (refine wpList_store_row (by rfl) 49 (.tmp 2) (.tmp 7) (by rfl) R #[.int .u64 sq, .slice q1 n1 d1, .slice q2 n2 d2] (by rfl) (by rfl) 49 _ HZ1.out AI.out AS.out AA.out ?_)
  refine bodyPost_ret (results_cell_row (fn := Try.f13) Try.results13 _ _ R 49 #[.int .u64 sq, .slice q1 n1 d1, .slice q2 n2 d2] (0, 0) _ (by rfl) (setRow_heap _ _ _ _ 49 (0, 0) HZ1.out) Try.underlying49 rfl infoP) rfl ⟨q1, d1, q2, d2, rfl, ?_, ?_, HA.out, ?_⟩
  · exact (HL1.out.setRow (by have := HS.out; omega)).base HB.out.size
  · exact (HL2.out.setRow (by have := HS.out; omega)).base HB.out.size
  · exact setRow_below (btr HB.out HB1.out) (by have := HR.out; omega)
end Go.Proofs.Ytojmcfkbekodpaa.Fd
