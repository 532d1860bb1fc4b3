/-
  PzB
-/
import Derived.Test.YtlhbgaiiehljpaaGreatGgg
import Derived.Test.YtlhbgaiiehljpaaGreatCnH
import Derived.Test.YtlhbgaiiehljpaaGreatGdd
namespace Go.Proofs.YtlhbgaiiehljpaaGreat.Ac
open Go.RowKit Go.Deep Go.Maps MonM Go.Proofs.YtlhbgaiiehljpaaGreat
set_option linter.unusedVariables false
set_option linter.unusedSimpArgs false
set_option maxHeartbeats 4000000
set_option maxRecDepth 100000
attribute [local go_sem ↓] Go.wp_at_zero Go.wp_at_succ
theorem lsum_any (a b : Int) (w : World) (ha : Amt a) (hb : Amt b) : Calls Tryz.prog 9 #[mv a, mv b] w fun e w' => e = .returned (mv (maddV a b)) ∧ Below w.heap.size w w' := by
  have C := hid (fun U => madd_any a b U ha hb)
  obtain ⟨n, hn⟩ : ∃ n, maddV a b = n := ⟨_, rfl⟩
  obtain ⟨er, her⟩ : ∃ n, maddE a b = n := ⟨_, rfl⟩
  rw [hn, her] at C
  rw [hn]
  clear ha hb hn her
  obtain ⟨g2, hg2⟩ : ∃ g, w.heap.size = g := ⟨_, rfl⟩
  obtain ⟨Wa, hWa⟩ : ∃ W, w.alloc (.cells #[.int .u64 (hiW a), .int .u64 (loW a)] 33) = W := ⟨_, rfl⟩
  obtain ⟨g3, hg3⟩ : ∃ g, Wa.heap.size = g := ⟨_, rfl⟩
  obtain ⟨Wb, hWb⟩ : ∃ W, Wa.alloc (.cells #[.int .u64 (hiW b), .int .u64 (loW b)] 33) = W := ⟨_, rfl⟩
  obtain ⟨g4, hg4⟩ : ∃ g, Wb.heap.size = g := ⟨_, rfl⟩
  obtain ⟨Wc, hWc⟩ : ∃ W, Wb.alloc (.cells #[.int .u64 0, .int .u64 0] 33) = W := ⟨_, rfl⟩
  have ba : Below w.heap.size w Wa := by rw [← hWa]; exact ball _ _
  have bb : Below Wa.heap.size Wa Wb := by rw [← hWb]; exact ball _ _
  have bc : Below Wb.heap.size Wb Wc := by rw [← hWc]; exact ball _ _
  have R2b := hid (show Wb.heap[g2]? = some (.cells #[.int .u64 (hiW a), .int .u64 (loW a)] 33 (0, 0)) from row_on (by rw [← hWa, ← hg2]; exact World.alloc_heap_new _ _) bb)
  have R3b := hid (show Wb.heap[g3]? = some (.cells #[.int .u64 (hiW b), .int .u64 (loW b)] 33 (0, 0)) from by rw [← hWb, ← hg3]; exact World.alloc_heap_new _ _)
  have HBC := hid bc
  have HG4 := hid (show Wb.heap.size ≤ g4 from by rw [hg4]; exact Nat.le_refl _)
  have HBB := hid (btr ba bb)
  have R2 := hid (show Wc.heap[g2]? = some (.cells #[.int .u64 (hiW a), .int .u64 (loW a)] 33 (0, 0)) from row_on (row_on (by rw [← hWa, ← hg2]; exact World.alloc_heap_new _ _) bb) bc)
  have R3 := hid (show Wc.heap[g3]? = some (.cells #[.int .u64 (hiW b), .int .u64 (loW b)] 33 (0, 0)) from row_on (by rw [← hWb, ← hg3]; exact World.alloc_heap_new _ _) bc)
  have R4 := hid (show Wc.heap[g4]? = some (.cells #[.int .u64 0, .int .u64 0] 33 (0, 0)) from by rw [← hWc, ← hg4]; exact World.alloc_heap_new _ _)
  have BC := hid (btr (btr ba bb) bc)
  have HG := hid (show w.heap.size ≤ g4 from by rw [← hg4]; exact (btr ba bb).size)
  have HGc := hid (show g4 < Wc.heap.size from row_lt R4.out)
  have k0 := row_cell R2.out 0
  have k1 := row_cell R2.out 1
  have k2 := row_cell R3.out 0
  have k3 := row_cell R3.out 1
  simp only [List.getElem?_toArray, List.getElem?_cons_succ, List.getElem?_cons_zero] at k0 k1 k2 k3
  clear ba bb bc
  unfold mv at C ⊢
  go_enter Tryz.func9, Tryz.ntmps9
  go_upto_region 1 with fail
  go_upto_region 2 with (first | (go_at_call 26; with_reducible refine (C.out _).mono ?_; rintro e X ⟨rfl, hX⟩; have HX := hid hX; clear hX; have HZ := hid (World.alloc_heap_new X (.cells #[.int .u64 0, .int .u64 0] 33))) | (refine wpList_store_row (by rfl) 33 (.tmp 5) (.tmp 11) (by rfl) X.heap.size #[.int .u64 (hiW n), .int .u64 (loW n)] (by rfl) (by rfl) 33 _ HZ.out infoM2 (by rfl) (by simp [Value.oneCell']) ?_))
  obtain ⟨Y, hY⟩ : ∃ Y, (X.alloc (.cells #[.int .u64 0, .int .u64 0] 33)).setRow X.heap.size #[.int .u64 (hiW n), .int .u64 (loW n)] = Y := ⟨_, rfl⟩
  have GY := hid (show Y.heap[X.heap.size]? = some (.cells #[.int .u64 (hiW n), .int .u64 (loW n)] 33 (0, 0)) from by rw [← hY]; exact setRow_heap _ _ _ _ 33 (0, 0) HZ.out)
  have BY := hid (show Below X.heap.size X Y from by rw [← hY]; exact setRow_below (ball _ _) (Nat.le_refl _))
  rw [hY]
  obtain ⟨y, hy⟩ : ∃ y, X.heap.size = y := ⟨_, rfl⟩
  rw [hy] at GY ⊢
  have RY := hid (row_on (row_on R4.out HX.out) BY.out)
  clear hY hy HZ k0 k1 k2 k3
  have k0 := row_cell GY.out 0
  have k1 := row_cell GY.out 1
  simp only [List.getElem?_toArray, List.getElem?_cons_succ, List.getElem?_cons_zero] at k0 k1
  go_wp2_with (refine wpList_store_row (by rfl) 33 (.tmp 4) (.tmp 13) (by rfl) g4 #[.int .u64 (hiW n), .int .u64 (loW n)] (by rfl) (by rfl) 33 _ RY.out infoM2 (by rfl) (by simp [Value.oneCell']) ?_)
  exact bodyPost_ret (res_c Tryz.results9 _ _ g4 33 #[.int .u64 (hiW n), .int .u64 (loW n)] (0, 0) _ (by rfl) (setRow_heap _ _ _ _ 33 (0, 0) RY.out) Tryz.underlying33 rfl infoM2) rfl ⟨rfl, setRow_below (btr (btr BC.out HX.out) BY.out) HG.out⟩
theorem nets_cell {base : Nat} {w : World} {g n c : Nat} {r : List Nt} (h : w.ownsRow base 38 6 (.slice (some ⟨g, 0, none⟩) n c) n (ncs r)) {i : Nat} (hi : i < r.length) {j : Nat} (h6 : j < 6) {u : Value} (hj : (nce r[i])[j]? = some u) : w.cell? ⟨g, i * 6 + j, none⟩ = some u :=
  own_cells' h (by rw [show ncs r = r.flatMap nce from rfl, flat_at 6 nce (fun _ => rfl) r i j hi h6, hj])
theorem reln_gN {f : Ks2} {r : List Nt} (h : RelN f r) {x : Nt} (hx : x ∈ r) : gN f (x.m, x.i) = ⟨x.b, x.s, x.a⟩ := by
  obtain ⟨u1, u2, _⟩ := h.ok x hx
  have := (h.iff x.m x.i ⟨x.b, x.s, x.a⟩ u1 u2).2 hx
  unfold gN
  rw [this]
  rfl
theorem reln_no {f : Ks2} {r : List Nt} (h : RelN f r) {m i : Int} (hm : U32 m) (hi : U32 i) (hx : ∀ x ∈ r, ¬ (x.m = m ∧ x.i = i)) : gN f (m, i) = n0 := by
  unfold gN
  cases e : f (m, i) with
  | none => rfl
  | some v => exact absurd ⟨rfl, rfl⟩ (hx _ ((h.iff m i v hm hi).1 e))
theorem net_any {f : Ks2} {r : List Nt} (h : RelN f r) {m i : Int} (hm : U32 m) (hi : U32 i) (base : Nat) (q : Option Addr) (d n : Nat) (w : World) (hn : r.length = n) (hb : n ≤ 2000000000) (own : w.ownsRow base 38 6 (.slice q n d) n (ncs r)) :
    Calls Tryz.prog 12 #[.slice q n d, .int .u32 m, .int .u32 i] w fun e w' => (∃ m' i', e = .returned (.agg #[.int .u32 m', .int .u32 i', .int .u64 (gN f (m, i)).b, .int .u64 (gN f (m, i)).s, .int .u64 (hiW (gN f (m, i)).a), .int .u64 (loW (gN f (m, i)).a)])) ∧ Below w.heap.size w w' := by
  obtain ⟨W, hW⟩ : ∃ W, w.alloc (.cells #[.int .u32 0, .int .u32 0, .int .u64 0, .int .u64 0, .int .u64 0, .int .u64 0] 38) = W := ⟨_, rfl⟩
  have BW := hid (show Below w.heap.size w W from by rw [← hW]; exact ball _ _)
  obtain ⟨g, hg⟩ : ∃ g, w.heap.size = g := ⟨_, rfl⟩
  have RW := hid (show W.heap[g]? = some (.cells #[.int .u32 0, .int .u32 0, .int .u64 0, .int .u64 0, .int .u64 0, .int .u64 0] 38 (0, 0)) from by rw [← hW, ← hg]; exact World.alloc_heap_new _ _)
  have HG := hid (show w.heap.size ≤ g from Nat.le_of_eq hg)
  have OW := hid (own_on own BW.out)
  have HR := hid h
  have HN := hid hn
  have HB := hid hb
  have HM := hid hm
  have HI := hid hi
  clear h hm hi own hn hb
  go_enter Tryz.func12, Tryz.ntmps12
  go_upto_region 1 with fail
  clear hW hg
  go_upto_region 2 with fail
  go_loopw [7] (fun iv wr => ∃ k : Nat, k ≤ n ∧ iv = .int .i64 k ∧ wr = W ∧ Hid (∀ j (hj : j < r.length), j < k → ¬ (r[j].m = m ∧ r[j].i = i))) (fun iv _ => n - (intOf iv).toNat)
  case atStart => exact ⟨0, Nat.zero_le _, rfl, rfl, fun j _ h => absurd h (Nat.not_lt_zero _)⟩
  case round =>
    obtain ⟨k, hkn, rfl, hw, HX⟩ := hrel
    subst hw
    by_cases hlt : k < n
    · have hk : k < r.length := by rw [HN.out]; exact hlt
      obtain ⟨gq, rfl⟩ : ∃ g, q = some ⟨g, 0, none⟩ := by
        obtain ⟨g, e, _⟩ := own_some OW.out (by omega)
        exact ⟨g, e⟩
      have a0 := nets_cell OW.out hk (j := 0) (by decide) rfl
      have a1 := nets_cell OW.out hk (j := 1) (by decide) rfl
      have a2 := nets_cell OW.out hk (j := 2) (by decide) rfl
      have a3 := nets_cell OW.out hk (j := 3) (by decide) rfl
      have a4 := nets_cell OW.out hk (j := 4) (by decide) rfl
      have a5 := nets_cell OW.out hk (j := 5) (by decide) rfl
      have HMEM := hid (List.getElem_mem hk)
      have HXN := hid (show (∀ j (hj : j < r.length), j < k → ¬ (r[j].m = m ∧ r[j].i = i)) → ¬ (r[k].m = m ∧ r[k].i = i) → ∀ j (hj : j < r.length), j < k + 1 → ¬ (r[j].m = m ∧ r[j].i = i) from fun h1 h2 j hj h3 => by
        by_cases c : j = k
        · subst c; exact h2
        · exact h1 j hj (by omega))
      obtain ⟨x, hx⟩ : ∃ x, r[k] = x := ⟨_, rfl⟩
      rw [hx] at a0 a1 a2 a3 a4 a5 HMEM HXN
      obtain ⟨xm, xi, xb, xs, xa⟩ := x
      dsimp only at a0 a1 a2 a3 a4 a5 HMEM HXN
      rw [Nat.add_zero] at a0
      have i0 : (0 : Int) ≤ (k : Int) := by omega
      have i1 : (k : Int) < (n : Int) := by omega
      have wi : IntKind.i64.wrap ((k : Int) + 1) = ((k + 1 : Nat) : Int) := by have := HB.out; rw [IntKind.wrap_i64]; omega
      have HLT := hid hlt
      clear hx hk
      by_cases c1 : xm = m
      · by_cases c2 : xi = i
        · subst c1 c2
          have HG2 := hid (reln_gN HR.out HMEM.out)
          have x1 : (xm == xm) = true := by simp
          have x2 : (xi == xi) = true := by simp
          obtain ⟨hh, ehh⟩ : ∃ z, hiW xa = z := ⟨_, rfl⟩
          obtain ⟨ll, ell⟩ : ∃ z, loW xa = z := ⟨_, rfl⟩
          rw [ehh] at a4
          rw [ell] at a5
          go_wp2_with (refine wpList_store_row (by rfl) 38 (.tmp 6) (.tmp 33) (by rfl) g #[.int .u32 xm, .int .u32 xi, .int .u64 xb, .int .u64 xs, .int .u64 hh, .int .u64 ll] (by rfl) (by rfl) 38 _ RW.out infoN6 (by rfl) (by simp [Value.oneCell']) ?_)
          refine bodyPost_ret (res_c Tryz.results12 _ _ g 38 #[.int .u32 xm, .int .u32 xi, .int .u64 xb, .int .u64 xs, .int .u64 hh, .int .u64 ll] (0, 0) _ (by rfl) (setRow_heap _ _ _ _ 38 (0, 0) RW.out) Tryz.underlying38 rfl infoN6) rfl ⟨⟨xm, xi, ?_⟩, setRow_below BW.out HG.out⟩
          rw [HG2.out, ← ehh, ← ell]
        · have x1 : (xm == m) = true := by simpa using c1
          have x2 : (xi == i) = false := by simpa using c2
          have HC := hid (show ¬ (xm = m ∧ xi = i) from fun e => c2 e.2)
          clear c1 c2
          go_wp2
          go_roundw
          case rel => exact ⟨k + 1, HLT.out, by go_num, trivial, HXN.out HX.out HC.out⟩
          case measure => have := HLT.out; simp [intOf]; omega
      · have x1 : (xm == m) = false := by simpa using c1
        have HC := hid (show ¬ (xm = m ∧ xi = i) from fun e => c1 e.1)
        clear c1
        go_wp2
        go_roundw
        case rel => exact ⟨k + 1, HLT.out, by go_num, trivial, HXN.out HX.out HC.out⟩
        case measure => have := HLT.out; simp [intOf]; omega
    · obtain rfl : k = n := by omega
      have HG2 := hid (reln_no HR.out HM.out HI.out (fun x hx => by
        obtain ⟨j, hj, rfl⟩ := List.getElem_of_mem hx
        exact HX.out j hj (by rw [← HN.out]; exact hj)))
      have iF : decide ((k : Int) < (k : Int)) = false := by simp
      go_wp2_with (refine wpList_store_row (by rfl) 38 (.tmp 6) (.tmp 34) (by rfl) g #[.int .u32 0, .int .u32 0, .int .u64 0, .int .u64 0, .int .u64 0, .int .u64 0] (by rfl) (by rfl) 38 _ RW.out infoN6 (by rfl) (by simp [Value.oneCell']) ?_)
      refine bodyPost_ret (res_c Tryz.results12 _ _ g 38 #[.int .u32 0, .int .u32 0, .int .u64 0, .int .u64 0, .int .u64 0, .int .u64 0] (0, 0) _ (by rfl) (setRow_heap _ _ _ _ 38 (0, 0) RW.out) Tryz.underlying38 rfl infoN6) rfl ⟨⟨0, 0, ?_⟩, setRow_below BW.out HG.out⟩
      rw [HG2.out]
      rfl
end Go.Proofs.YtlhbgaiiehljpaaGreat.Ac
