/-
  Pictures copied.
-/
import Derived.Test.YtiphgfghdbmlcaaFeM
namespace Go.Proofs.Ytiphgfghdbmlcaa
open Go.RowKit Go.Deep
set_option linter.unusedVariables false
set_option linter.unusedSimpArgs false
set_option maxHeartbeats 2000000
set_option maxRecDepth 100000
theorem infoP : (Try.prog.info? 30).map (·.size) = some 3 := by kernel_rfl
theorem set_row {w : World} {B k : Nat} {row : Array Value} {t : TypeId} (v : Value) (h : w.heap[B]? = some (.cells row t (0, 0))) : (w.setCell ⟨B, k, none⟩ v).heap[B]? = some (.cells (row.setIfInBounds k v) t (0, 0)) := heap_setCell_same w B k row t v h
theorem set_oth {w : World} {B k g : Nat} {o : Option Obj} (v : Value) (h : w.heap[g]? = o) (hg : g ≠ B) : (w.setCell ⟨B, k, none⟩ v).heap[g]? = o := by rw [heap_setCell_other _ _ _ _ hg]; exact h
theorem set_below {w W : World} {g k : Nat} {v : Value} (h : Below w.heap.size w W) (hg : w.heap.size ≤ g) : Below w.heap.size w (W.setCell ⟨g, k, none⟩ v) := h.trans ((Kp.set W g k v).below h.size (fun b hb e => by omega))
theorem Lo.set {b : Nat} {w : World} {p : Option Addr} {c : Nat} {l : List Lv} (h : Lo b w p c l) {g k : Nat} {v : Value} (hg : g < b) : Lo b (w.setCell ⟨g, k, none⟩ v) p c l :=
  own_same h (fun j hj => heap_setCell_other _ _ _ _ (by
    have := own_geP (g := j) h (by
      obtain ⟨_, ⟨e, _⟩ | ⟨g', c', cur, e, _⟩⟩ := h
      · rw [e] at hj; cases hj
      · have e5 := (Value.slice.inj e).1
        rw [e] at hj; cases hj
        exact e5)
    show j ≠ g; omega))
theorem Lo.setRow {b : Nat} {w : World} {p : Option Addr} {c : Nat} {l : List Lv} (h : Lo b w p c l) {g : Nat} {cs : Array Value} (hg : g < b) : Lo b (w.setRow g cs) p c l :=
  own_same h (fun j hj => setRow_other _ _ _ _ (by
    have := own_geP (g := j) h (by
      obtain ⟨_, ⟨e, _⟩ | ⟨g', c', cur, e, _⟩⟩ := h
      · rw [e] at hj; cases hj
      · have e5 := (Value.slice.inj e).1
        rw [e] at hj; cases hj
        exact e5)
    show j ≠ g; omega))
theorem Lo.ge {b : Nat} {w : World} {p : Option Addr} {c : Nat} {l : List Lv} (h : Lo b w p c l) {g : Nat} (hg : OfP p g) : b ≤ g ∧ g < w.heap.size := by
  refine ⟨own_geP h hg, ?_⟩
  subst hg
  obtain ⟨cur, e⟩ := own_ty h rfl
  exact row_lt e
theorem copied_any (sq : Int) (p1 p2 : Option Addr) (c1 c2 : Nat) (l1 l2 : List Lv) (w : World) (h1 : Rl w p1 c1 l1) (h2 : Rl w p2 c2 l2) (b1 : l1.length * 24 ≤ 140737488355328) (b2 : l2.length * 24 ≤ 140737488355328) :
    Calls Try.prog 34 #[.agg #[.int .u64 sq, .slice p1 l1.length c1, .slice p2 l2.length c2]] w fun e w' => ∃ q1 d1 q2 d2, e = .returned (.agg #[.int .u64 sq, .slice q1 l1.length d1, .slice q2 l2.length d2]) ∧ Lo w.heap.size w' q1 d1 l1 ∧ Lo w.heap.size w' q2 d2 l2 ∧ (∀ g, OfP q1 g → ¬ OfP q2 g) ∧ Below w.heap.size w w' := by
  obtain ⟨R, hR⟩ : ∃ R, w.heap.size = R := ⟨_, rfl⟩
  obtain ⟨n1, hn1⟩ : ∃ n, l1.length = n := ⟨_, rfl⟩
  obtain ⟨n2, hn2⟩ : ∃ n, l2.length = n := ⟨_, rfl⟩
  obtain ⟨W, hW⟩ : ∃ W, (w.alloc (.cells #[.int .u64 sq, .slice p1 n1 c1, .slice p2 n2 c2] 30)).alloc (.cells #[.int .u64 0, .slice none 0 0, .slice none 0 0] 30) = W := ⟨_, rfl⟩
  obtain ⟨hb0, x0, x1, hsz⟩ := alloc2 hR hW
  have HB := hid hb0
  have HP := hid (x0 _ _ rfl)
  have HZ := hid (x1 _ _ rfl)
  have HS := hid hsz
  have HW := hid hW
  have HR := hid hR
  have C1 := hid (copiedLevels_any p1 c1 l1 W (h1.on hb0) b1)
  have C2 := hid (fun (U : World) (hU : Below w.heap.size w U) => copiedLevels_any p2 c2 l2 U (h2.on hU) b2)
  rw [hn1] at C1
  rw [hn2] at C2
  rw [hn1, hn2]
  have HN1 := hid hn1
  have HN2 := hid hn2
  clear h1 h2 b1 b2 hb0 x0 x1 hsz hW hR hn1 hn2
  go_enter Try.func34, Try.ntmps34
  go_upto_region 1 with fail
  rw [HW.out, HR.out]
  obtain ⟨k0, k1, k2⟩ := row3 HP.out
  go_upto_region 2 with (go_at_call 49; with_reducible refine (C1.out).mono ?_; rintro e w1 ⟨q1, d1, rfl, hl, hb⟩; have HL1 := hid hl; have HB1 := hid hb; obtain ⟨k0, k1, k2⟩ := row3 (row_on HP.out hb); have f1 := row_frz (row_on HP.out hb) 1; clear hl hb)
  obtain ⟨W2, hW2⟩ : ∃ W2, w1.setCell ⟨R, 1, none⟩ (.slice q1 n1 d1) = W2 := ⟨_, rfl⟩
  have hsz2 : W2.heap.size = w1.heap.size := by rw [← hW2]; simp [World.setCell]
  have HB2 := hid (show Below w.heap.size w W2 from by rw [← hW2]; exact set_below (btr HB.out HB1.out) (by have := HR.out; omega))
  have HP2 := hid (show W2.heap[R]? = some (.cells #[.int .u64 sq, .slice q1 n1 d1, .slice p2 n2 c2] 30 (0, 0)) from by rw [← hW2]; exact set_row _ (row_on HP.out HB1.out))
  have HZ2 := hid (show W2.heap[R + 1]? = some (.cells #[.int .u64 0, .slice none 0 0, .slice none 0 0] 30 (0, 0)) from by rw [← hW2]; exact set_oth _ (row_on HZ.out HB1.out) (by omega))
  have HL2 := hid (show Lo W.heap.size W2 q1 d1 l1 from by rw [← hW2]; exact HL1.out.set (by have := HS.out; omega))
  rw [hW2]
  have HSZ := hid hsz2
  clear k0 k1 k2 f1 hW2 hsz2
  obtain ⟨k0, k1, k2⟩ := row3 HP2.out
  go_upto_region 3 with (go_at_call 49; with_reducible refine (C2.out W2 HB2.out).mono ?_; rintro e w3 ⟨q2, d2, rfl, hl, hb⟩; have HL3 := hid hl; have HB3 := hid hb; obtain ⟨k0, k1, k2⟩ := row3 (row_on HP2.out hb); have f2 := row_frz (row_on HP2.out hb) 2; clear hl hb)
  obtain ⟨W4, hW4⟩ : ∃ W4, w3.setCell ⟨R, 2, none⟩ (.slice q2 n2 d2) = W4 := ⟨_, rfl⟩
  have HB4 := hid (show Below w.heap.size w W4 from by rw [← hW4]; exact set_below (btr HB2.out HB3.out) (by have := HR.out; omega))
  have HP4 := hid (show W4.heap[R]? = some (.cells #[.int .u64 sq, .slice q1 n1 d1, .slice q2 n2 d2] 30 (0, 0)) from by rw [← hW4]; exact set_row _ (row_on HP2.out HB3.out))
  have HZ4 := hid (show W4.heap[R + 1]? = some (.cells #[.int .u64 0, .slice none 0 0, .slice none 0 0] 30 (0, 0)) from by rw [← hW4]; exact set_oth _ (row_on HZ2.out HB3.out) (by omega))
  have HL4 := hid (show Lo W.heap.size W4 q1 d1 l1 from by rw [← hW4]; exact (HL2.out.on HB3.out).set (by have := HS.out; omega))
  have HL5 := hid (show Lo W2.heap.size W4 q2 d2 l2 from by rw [← hW4]; exact HL3.out.set (by have := HS.out; have := HSZ.out; have := HB1.out.size; omega))
  rw [hW4]
  clear k0 k1 k2 f2 hW4
  obtain ⟨k0, k1, k2⟩ := row3 HP4.out
  have AI := hid (show (Try.prog.info? 30).map (·.size) = some (#[.int .u64 sq, .slice q1 n1 d1, .slice q2 n2 d2] : Array Value).size from infoP)
  have AS := hid (show (#[.int .u64 0, .slice none 0 0, .slice none 0 0] : Array Value).size = (#[.int .u64 sq, .slice q1 n1 d1, .slice q2 n2 d2] : Array Value).size from rfl)
  have AA := hid (show (#[.int .u64 sq, .slice q1 n1 d1, .slice q2 n2 d2] : Array Value).all (·.oneCell') = true from by simp [Value.oneCell'])
  go_wp2_with (refine wpList_store_row (by rfl) 30 (.tmp 2) (.tmp 11) (by rfl) (R + 1) #[.int .u64 sq, .slice q1 n1 d1, .slice q2 n2 d2] (by rfl) (by rfl) 30 _ HZ4.out AI.out AS.out AA.out ?_)
  refine bodyPost_ret (results_cell_row (fn := Try.f34) Try.results34 _ _ (R + 1) 30 #[.int .u64 sq, .slice q1 n1 d1, .slice q2 n2 d2] (0, 0) _ (by rfl) (setRow_heap _ _ _ _ 30 (0, 0) HZ4.out) Try.underlying30 rfl infoP) rfl ⟨q1, d1, q2, d2, rfl, ?_, ?_, ?_, ?_⟩
  · exact (HL4.out.setRow (by have := HS.out; omega)).base (by have := HS.out; have := HR.out; omega)
  · exact (HL5.out.setRow (by have := HS.out; have := HSZ.out; have := HB1.out.size; omega)).base HB2.out.size
  · intro g g1 g2
    have a := (HL2.out.ge g1).2
    have b := (HL5.out.ge g2).1
    omega
  · exact setRow_below HB4.out (by have := HR.out; omega)
end Go.Proofs.Ytiphgfghdbmlcaa
