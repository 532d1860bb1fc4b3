/-
  An interest is put at the end of a list, or into one that has no room.
-/
import Derived.Test.YtknikhoobhgidaaAuQ
namespace Go.Proofs.Ytknikhoobhgidaa
open Go.RowKit Go.Deep Go.Shelf
set_option linter.unusedVariables false
set_option linter.unusedSimpArgs false
set_option maxHeartbeats 4000000
set_option maxRecDepth 100000
theorem own_ofq {base : Nat} {w : World} {e : TypeId} {size n c k : Nat} {p : Option Addr} {xs : List Value} (h : w.ownsRow base e size (.slice p n c) n xs) (hk : (Value.slice p n c).ownBlock = some k) : OfP p k := by
  obtain ⟨_, ⟨e5, _⟩ | ⟨g', c', cur, e5, _⟩⟩ := h
  · rw [e5] at hk; cases hk
  · have e6 := (Value.slice.inj e5).1
    rw [e5] at hk; cases hk
    exact e6
theorem insert_end (p : Option Addr) (c : Nat) (l : List It) (x : It) (vb : Nat) (w : World) (h : Li w p c l) (hn : l.length ≤ 4096) (hv : w.heap[vb]? = some (.cells #[.int .u64 x.id, .int .u32 x.mb, .int .i64 x.sd, .int .i64 x.ty, .int .i64 x.pr, .int .u64 x.qt] 36 (0, 0))) :
    Calls Try.prog 58 #[.slice p l.length c, .int .i64 l.length, .slice (some ⟨vb, 0, none⟩) 1 1] w fun e w' => ∃ p' c', e = .returned (.slice p' (ins l.length x l).length c') ∧ Li w' p' c' (ins l.length x l) ∧ (∀ g, OfP p' g → OfP p g ∨ w.heap.size ≤ g) ∧ Kp (OfP p) w w' := by
  obtain ⟨i0, hi0, hz0, hz1, hz2⟩ := info_parts infoIt
  have hil : (ins l.length x l).length = l.length + 1 := ins_len (Nat.le_refl _)
  have hie : its (ins l.length x l) = its l ++ (irow x).toList := by
    rw [its_ins, List.take_of_length_le (by rw [its_len]; exact Nat.le_refl _), List.drop_of_length_le (by rw [its_len]; exact Nat.le_refl _), List.append_nil]
  obtain ⟨g, cap, w', hrun, hown, hgr, hwh, hlt⟩ := run_append_lies (P := Try.prog) w 65 65 0 36 i0 _ 6 48 Try.underlying65 hi0 hz0 hz1 hz2 rfl (by decide) (.slice p l.length c) l.length (its l) h ⟨vb, 0, none⟩ 1 1 (irow x).toList rfl (fun j u hj => get_row hv hj) (irow_one x) (by omega) (by unfold maxLen; omega) (by omega) (Nat.zero_le _) w.heap.size rfl
  have hap : ∀ ty, (Builtin.append_ #[65, 22] ty #[.slice p l.length c, .slice (some ⟨vb, 0, none⟩) 1 1]).run Try.prog w = .ok (.slice (some ⟨g, 0, none⟩) (l.length + 1) cap) w' := fun ty => by
    rw [run_append_tx w 65 22 ty 36 36 Try.underlying65 Try.underlying22]
    have : (Builtin.append_ #[65, 65] ty #[.slice p l.length c, .slice (some ⟨vb, 0, none⟩) 1 1]).run Try.prog w = (Builtin.append_ #[65, 65] 65 #[.slice p l.length c, .slice (some ⟨vb, 0, none⟩) 1 1]).run Try.prog w := rfl
    rw [this, hrun]
  have HFIN := hid (show ∃ p' c', Ending.returned (.slice (some ⟨g, 0, none⟩) (l.length + 1) cap) = .returned (.slice p' (ins l.length x l).length c') ∧ Li w' p' c' (ins l.length x l) ∧ (∀ g, OfP p' g → OfP p g ∨ w.heap.size ≤ g) ∧ Kp (OfP p) w w' from by
    refine ⟨some ⟨g, 0, none⟩, cap, by rw [hil], ?_, fun b hb => ?_, ⟨hgr.os, hgr.tape, hgr.output, hgr.size, fun b hb hB => hgr.block b hb (fun e => hB (own_ofq h e.symm))⟩⟩
    · unfold Li
      rw [hil, hie]
      exact hown
    · rw [hb.eq]
      rcases hwh with hwh | hwh
      · exact .inl (own_ofq h hwh)
      · exact .inr (by omega))
  obtain ⟨n, hnn⟩ : ∃ n, l.length = n := ⟨_, rfl⟩
  rw [hnn] at hap HFIN hn ⊢
  have hc2 := h.cap
  have zq : ((n : Int) == (n : Int)) = true := by simp
  have hcn : n ≤ c := by omega
  have hc63 : c < 9223372036854775808 := hc2.2
  rw [← hnn]
  rw [← hnn] at HFIN
  have HNN := hid hnn
  clear h hv hrun hown hgr hwh hi0 hz0 hz1 hz2 hil hie hc2
  rw [hnn]
  clear hnn
  cases p with
  | none =>
    go_enter Try.func58, Try.ntmps58
    go_wp2_with (at_builtin; refine Lib.wpList_append_run _ rfl _ _ _ _ rfl _ _ rfl rfl _ _ (hap _) ?_)
    all_goals (go_ret; have := HFIN.out; rw [HNN.out] at this; exact this)
  | some a =>
    obtain ⟨ab, ao, asp⟩ := a
    go_enter Try.func58, Try.ntmps58
    go_wp2_with (at_builtin; refine Lib.wpList_append_run _ rfl _ _ _ _ rfl _ _ rfl rfl _ _ (hap _) ?_)
    all_goals (go_ret; have := HFIN.out; rw [HNN.out] at this; exact this)
theorem insert_grow (g c : Nat) (l : List It) (i : Nat) (x : It) (vb : Nat) (w : World) (h : Li w (some ⟨g, 0, none⟩) c l) (hi : i < l.length) (hnr : c < l.length + 1) (hn : l.length ≤ 4096) (hv : w.heap[vb]? = some (.cells #[.int .u64 x.id, .int .u32 x.mb, .int .i64 x.sd, .int .i64 x.ty, .int .i64 x.pr, .int .u64 x.qt] 36 (0, 0))) :
    Calls Try.prog 58 #[.slice (some ⟨g, 0, none⟩) l.length c, .int .i64 i, .slice (some ⟨vb, 0, none⟩) 1 1] w fun e w' => ∃ N G, e = .returned (.slice (some ⟨N, 0, none⟩) (ins i x l).length G) ∧ Li w' (some ⟨N, 0, none⟩) G (ins i x l) ∧ w.heap.size ≤ N ∧ Below w.heap.size w w' := by
  obtain ⟨i0, hi0, hz0, hs0, hb0⟩ := info_parts infoIt
  obtain ⟨g', cur, hp, hr, hcs, hlc, hcm, ht⟩ := h.some (by omega)
  obtain rfl : g = g' := by injection hp with hp; injection hp
  have hcl : c = l.length := by omega
  subst hcl
  obtain ⟨n, hnn⟩ : ∃ n, l.length = n := ⟨_, rfl⟩
  have HNN := hid hnn
  have hpl := its_len l
  rw [hnn] at hpl ht hi hnr hn hlc hcs hcm ⊢
  have htl : ((its l).take (i * 6)).length = i * 6 := by rw [List.length_take, hpl]; omega
  have hold : (Builtin.firstCells i0.size i (.slice (some ⟨g, 0, none⟩) i n)).run Try.prog w.drew = .ok ((its l).take (i * 6)).toArray w.drew := by
    rw [hs0]
    refine run_firstCells_some w.drew 6 i ⟨g, 0, none⟩ i n ((its l).take (i * 6)) htl (fun j v hj => ?_)
    have hj2 : j < i * 6 := by have := (List.getElem?_eq_some_iff.1 hj).1; omega
    rw [Addr.add_lit, Nat.zero_add]
    rw [List.getElem?_take, if_pos hj2] at hj
    exact get_its hr (by rw [hnn]; exact ht) hj
  obtain ⟨G, hG⟩ : ∃ G, grownCap w (n + 1) n 36 = G := ⟨_, rfl⟩
  obtain ⟨ROW, hROW⟩ : ∃ ROW : Array Value, ((its l).take (i * 6)).toArray ++ Builtin.zeroCells (Value.agg #[.int .u64 0, .int .u32 0, .int .i64 0, .int .i64 0, .int .i64 0, .int .u64 0]).cells (n + 1 - i) ++ Builtin.zeroCells (Value.agg #[.int .u64 0, .int .u32 0, .int .i64 0, .int .i64 0, .int .i64 0, .int .u64 0]).cells (G - (n + 1)) = ROW := ⟨_, rfl⟩
  have hkk : (n : Int) + 1 - (i : Int) = ((n + 1 - i : Nat) : Int) := by omega
  have hik : i + (n + 1 - i) = n + 1 := by omega
  obtain ⟨W1, hW1⟩ : ∃ W1, w.drew.alloc (.cells ROW 36) = W1 := ⟨_, rfl⟩
  have hap : ∀ ty, (Builtin.append_ #[65, 3] ty #[.slice (some ⟨g, 0, none⟩) i n, .int .i64 ((n : Int) + 1 - (i : Int))]).run Try.prog w = .ok (.slice (some ⟨w.heap.size, 0, none⟩) (n + 1) G) W1 := fun ty => by
    have h := Lib.run_append_grow_zeros w 65 3 ty 36 i0 _ .i64 .i64 Try.underlying65 Try.underlying3 hi0 hz0 (some ⟨g, 0, none⟩) i n ((its l).take (i * 6)) hold (n + 1 - i) (by omega) (by omega) (by omega) (by omega) (by rw [hb0]; omega) (by rw [hb0, hik]; exact growslice_fits hnr (by omega))
    rw [hik] at h
    rw [hkk, h, ← hW1, ← hROW, ← hG]
  have hG1 : n + 1 ≤ G := by rw [← hG]; exact grownCap_ge w _ _ _
  have hG2 : G ≤ maxLen := by rw [← hG]; exact grownCap_le_maxLen w (n + 1) n 36 (by unfold maxLen; omega)
  have hsz : ROW.size = G * 6 := by
    rw [← hROW]
    simp [Builtin.zeroCells, Value.cells, htl]
    omega
  have hb1 : Below w.heap.size w W1 := by rw [← hW1]; exact btr (bdrew1 w) (ball w.drew _)
  have hN : W1.heap[w.heap.size]? = some (.cells ROW 36 (0, 0)) := by rw [← hW1]; exact World.alloc_heap_new w.drew _
  obtain ⟨R1, hR1⟩ : ∃ R1, (ROW.toList.take (i * 6) ++ (irow x).toList ++ ROW.toList.drop (i * 6 + (irow x).toList.length)).toArray = R1 := ⟨_, rfl⟩
  have hs1 : R1.size = G * 6 := by rw [← hR1]; simp [irow_size, irow_len]; omega
  have hcp1 : ∀ ty dc, (Builtin.copy_ #[65, 22] ty #[.slice (some ⟨w.heap.size, i * 6, none⟩) (n + 1 - i) dc, .slice (some ⟨vb, 0, none⟩) 1 1]).run Try.prog W1 = .ok (goInt (Nat.min 1 (n + 1 - i))) (W1.setRow w.heap.size R1) := fun ty dc => by
    rw [← hR1]
    exact run_copy_rows W1 65 22 ty 36 w.heap.size (i * 6) (n + 1 - i) dc ⟨vb, 0, none⟩ 1 1 ROW 36 (irow x).toList 6 Try.underlying65 sizeIt hN (by rw [irow_len]; simp only [Nat.min_def]; split <;> omega) (fun j v hj => get_row (row_on hv hb1) hj) (by rw [irow_len]; omega) (irow_one x)
  obtain ⟨W2, hW2⟩ : ∃ W2, W1.setRow w.heap.size R1 = W2 := ⟨_, rfl⟩
  have hN2 : W2.heap[w.heap.size]? = some (.cells R1 36 (0, 0)) := by rw [← hW2]; exact setRow_heap W1 w.heap.size ROW R1 36 (0, 0) hN
  have hb2 : Below w.heap.size w W2 := by
    rw [← hW2]
    exact setRow_below hb1 (Nat.le_refl _)
  have hdl : ((its l).drop (i * 6)).length = (n - i) * 6 := by rw [List.length_drop, hpl]; omega
  obtain ⟨R2, hR2⟩ : ∃ R2, (R1.toList.take ((i + 1) * 6) ++ (its l).drop (i * 6) ++ R1.toList.drop ((i + 1) * 6 + ((its l).drop (i * 6)).length)).toArray = R2 := ⟨_, rfl⟩
  have hs2 : R2.size = G * 6 := by rw [← hR2]; simp [hdl]; omega
  have hcp2 : ∀ ty dc sc, (Builtin.copy_ #[65, 65] ty #[.slice (some ⟨w.heap.size, (i + 1) * 6, none⟩) (n + 1 - (i + 1)) dc, .slice (some ⟨g, i * 6, none⟩) (n - i) sc]).run Try.prog W2.drew = .ok (goInt (Nat.min (n - i) (n + 1 - (i + 1)))) (W2.drew.setRow w.heap.size R2) := fun ty dc sc => by
    rw [← hR2]
    refine run_copy_rows W2.drew 65 65 ty 36 w.heap.size ((i + 1) * 6) (n + 1 - (i + 1)) dc ⟨g, i * 6, none⟩ (n - i) sc R1 36 ((its l).drop (i * 6)) 6 Try.underlying65 sizeIt hN2 (by rw [hdl]; simp only [Nat.min_def]; split <;> omega) (fun j v hj => ?_) (by rw [hdl]; omega) (fun v hv => its_one l v (List.mem_of_mem_drop hv))
    rw [Addr.add_lit]
    rw [List.getElem?_drop] at hj
    exact get_its (row_on hr hb2) (by rw [hnn]; exact ht) hj
  have hil : (ins i x l).length = n + 1 := by rw [ins_len (by omega), hnn]
  have HFIN := hid (show ∃ N G', Ending.returned (.slice (some ⟨w.heap.size, 0, none⟩) (n + 1) G) = .returned (.slice (some ⟨N, 0, none⟩) (ins i x l).length G') ∧ Li (W2.drew.setRow w.heap.size R2) (some ⟨N, 0, none⟩) G' (ins i x l) ∧ w.heap.size ≤ N ∧ Below w.heap.size w (W2.drew.setRow w.heap.size R2) from by
    have hb3 : Below w.heap.size w (W2.drew.setRow w.heap.size R2) := setRow_below (btr hb2 (bdrew1 W2)) (Nat.le_refl _)
    refine ⟨w.heap.size, G, by rw [hil], li_mk (setRow_heap W2.drew w.heap.size R1 R2 36 (0, 0) hN2) (by rw [hil]; exact hG1) hG2 hs2 ?_, Nat.le_refl _, hb3⟩
    rw [hil, its_ins, ← hR2, ← hR1]
    have := spliceL (A := ROW.toList) (B := (Builtin.zeroCells (Value.agg #[.int .u64 0, .int .u32 0, .int .i64 0, .int .i64 0, .int .i64 0, .int .u64 0]).cells (n + 1 - i) ++ Builtin.zeroCells (Value.agg #[.int .u64 0, .int .u32 0, .int .i64 0, .int .i64 0, .int .i64 0, .int .u64 0]).cells (G - (n + 1))).toList) (P := its l) (V := (irow x).toList) (a := i * 6) (n := n * 6) hpl (by omega) (by simp [irow_size, irow_len, Builtin.zeroCells, Value.cells]; omega) (by rw [← hROW]; simp)
    rw [irow_len, show i * 6 + 6 = (i + 1) * 6 by omega, show n * 6 + 6 = (n + 1) * 6 by omega] at this
    rw [irow_len, show i * 6 + 6 = (i + 1) * 6 by omega]
    exact this)
  rw [hW2] at hcp1
  have w1 : IntKind.i64.wrap ((i : Int) + 1) = (i : Int) + 1 := by rw [IntKind.wrap_i64]; omega
  have b1 : (0 : Int) ≤ (i : Int) + 1 := by omega
  have t1 : ((i : Int) + 1).toNat = i + 1 := by omega
  have z3 : ((i : Int) == (n : Int)) = false := by
    have : (i : Int) ≠ (n : Int) := by omega
    simpa using this
  have b2 : ¬ (G = i + 1) := by omega
  have b3 : ¬ (G = i) := by omega
  have b6 : ¬ (n = i) := by omega
  have b4 : (i : Int) ≤ (n : Int) + 1 := by omega
  have b5 : i ≤ n := by omega
  unfold maxLen at hG2
  clear hR1 hR2 hW1 hW2 hN hN2 ht h hr hv hold hROW hG hkk hik hi0 hz0 hb1 hb2 hil hnn hpl
  go_enter Try.func58, Try.ntmps58
  go_wp2_with (at_builtin; refine Lib.wpList_append_run _ rfl _ _ _ _ rfl _ _ rfl rfl _ _ (hap _) ?_)
  go_region_law (refine step_copy_known (by rfl) (.tmp 50) (.tmp 53) 65 65 (by rfl) (.slice (some ⟨w.heap.size, (i + 1) * 6, none⟩) (n + 1 - (i + 1)) (G - (i + 1))) (.slice (some ⟨g, i * 6, none⟩) (n - i) (n - i)) (by simp [Act.eval, Act.put]) (by simp [Act.eval, Act.put]) (hcp2 _ _ _) ?_)
  go_wp2
  go_ret
  exact HFIN.out
/-- an interest is put into a list. -/
theorem insert_any (p : Option Addr) (c : Nat) (l : List It) (i : Nat) (x : It) (vb : Nat) (w : World) (h : Li w p c l) (hi : i ≤ l.length) (hn : l.length ≤ 4096) (hv : w.heap[vb]? = some (.cells #[.int .u64 x.id, .int .u32 x.mb, .int .i64 x.sd, .int .i64 x.ty, .int .i64 x.pr, .int .u64 x.qt] 36 (0, 0))) (hne : ¬ OfP p vb) :
    Calls Try.prog 58 #[.slice p l.length c, .int .i64 i, .slice (some ⟨vb, 0, none⟩) 1 1] w fun e w' => ∃ p' c', e = .returned (.slice p' (ins i x l).length c') ∧ Li w' p' c' (ins i x l) ∧ (∀ g, OfP p' g → OfP p g ∨ w.heap.size ≤ g) ∧ Kp (OfP p) w w' := by
  by_cases he : i = l.length
  · subst he; exact insert_end p c l x vb w h hn hv
  · have hlt : i < l.length := by omega
    obtain ⟨g, cur, rfl, _⟩ := h.some (by omega)
    by_cases hroom : l.length + 1 ≤ c
    · refine (insert_shift g c l i x vb w h hlt hroom hn hv (fun e => hne (by rw [e]; exact OfP.mk g))).mono ?_
      rintro e w' ⟨rfl, h1, h2⟩
      exact ⟨_, _, rfl, h1, fun b hb => .inl hb, h2.mono (fun b _ e => by rw [e]; exact OfP.mk g)⟩
    · refine (insert_grow g c l i x vb w h hlt (by omega) hn hv).mono ?_
      rintro e w' ⟨N, G, rfl, h1, h2, h3⟩
      exact ⟨_, _, rfl, h1, fun b hb => .inr (by rw [hb.eq]; exact h2), Kp.of _ h3⟩
end Go.Proofs.Ytknikhoobhgidaa
