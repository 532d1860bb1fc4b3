/-
  An interest is put into a list.
-/
import Derived.Test.YtnmkfdndfhefiaaGreatAuO
import Derived.Deep.RegionLaw
import Derived.Lib.AppendZerosOnto
import Derived.Lib.Overlaps
import Derived.Laws.Externs
import Derived.Laws.CopyRow
import Derived.Deep.AppendSrc
import Derived.Laws.NewBlocks
namespace Go.Proofs.YtnmkfdndfhefiaaGreat
open Go.RowKit Go.Deep Go.Shelf
set_option linter.unusedVariables false
set_option linter.unusedSimpArgs false
set_option maxHeartbeats 4000000
set_option maxRecDepth 100000
section
variable {P : Program}
/-- rows are copied. -/
theorem run_copy_rows (w : World) (dT sT ty elem : TypeId) (g o dLen dCap : Nat) (a : Addr) (sLen sCap : Nat) (cur : Array Value) (t : TypeId) (cs : List Value) (sz : Nat)
    (hu : P.underlying dT = some (.slice elem)) (hs : (P.info? elem).map (·.size) = some sz)
    (hg : w.heap[g]? = some (.cells cur t (0, 0))) (hn : cs.length = Nat.min sLen dLen * sz)
    (hsrc : ∀ j v, cs[j]? = some v → w.cell? (a.add j) = some v) (hfit : o + cs.length ≤ cur.size) (h1 : ∀ v ∈ cs, v.oneCell' = true) :
    (Builtin.copy_ #[dT, sT] ty #[.slice (some ⟨g, o, none⟩) dLen dCap, .slice (some a) sLen sCap]).run P w =
      .ok (goInt (Nat.min sLen dLen)) (w.setRow g (cur.toList.take o ++ cs ++ cur.toList.drop (o + cs.length)).toArray) := by
  have hl := run_firstCells_some (P := P) w sz (Nat.min sLen dLen) a sLen sCap cs hn hsrc
  have hst := run_storeCells_at P g o t cs 0 cur w hg (by simpa using hfit) h1
  cases hq : P.info? elem with
  | none => simp [hq] at hs
  | some i =>
    have hi : i.size = sz := by simpa [hq] using hs
    simp [Builtin.copy_, run_underlying hu, Builtin.lenOf, sizeOf, typeInfo, hq, hi, hl, hst]
theorem run_append_tx (w : World) (t tx ty e e' : TypeId) (ht : P.underlying t = some (.slice e)) (hx : P.underlying tx = some (.slice e')) (sb : Option Addr) (sn sc : Nat) (a : Option Addr) (m c : Nat) :
    (Builtin.append_ #[t, tx] ty #[.slice sb sn sc, .slice a m c]).run P w = (Builtin.append_ #[t, t] ty #[.slice sb sn sc, .slice a m c]).run P w := by
  simp only [Builtin.append_, run_underlying ht, run_underlying hx, Sem.run_bind, Result.andThen_ok, List.getElem?_toArray, List.getElem?_cons_zero, List.getElem?_cons_succ]
/-- a copy whose run is known, in a region that draws its order. -/
theorem step_copy_known {ops : Array Oper} {o : Oper} {a : Act} {w : World} {K : Act → World → Prop} {Q : Exit → Act → World → Prop} {E : Prop} (hg : o.guard = none) (d x : Operand) (dT sT : TypeId)
    (ho : o.op = .call { callee := .builtin .copy, args := #[d, x], argTypes := #[dT, sT] }) (v u : Value) (hd : a.eval d = v) (hx : a.eval x = u) {v' : Value} {w' : World} (hr : (Builtin.copy_ #[dT, sT] o.type #[v, u]).run P w = .ok v' w') (hK : K (a.put o.dst v') w') :
    if Region.wanted o (yielded ops a.tmps) = true then Oper.wp P o a w K Q else E := by
  rw [if_pos (by simp [Region.wanted, hg])]
  unfold Oper.wp
  simp [execOp, ho, resolve, invoke, builtin, hd, hx, hr, Result.andThen]
  exact hK
end
theorem its_ins (i : Nat) (x : It) (l : List It) : its (ins i x l) = (its l).take (i * 6) ++ ((irow x).toList ++ (its l).drop (i * 6)) := by
  rw [its_take, its_drop]
  unfold ins
  rw [its_app]
  rfl
theorem irow_size (x : It) : (irow x).size = 6 := rfl
theorem irow_len (x : It) : (irow x).toList.length = 6 := rfl
theorem li_mk {w : World} {g c : Nat} {cur : Array Value} {l : List It} (hr : w.heap[g]? = some (.cells cur 35 (0, 0))) (hn : l.length ≤ c) (hc : c ≤ maxLen) (hs : cur.size = c * 6) (ht : cur.toList.take (l.length * 6) = its l) : Li w (some ⟨g, 0, none⟩) c l :=
  ⟨its_len l, .inr ⟨g, c, cur, rfl, Nat.zero_le _, hr, hn, hc, hs, ht⟩⟩
theorem sizeIt : (Tryz.prog.info? 35).map (·.size) = some 6 := by kernel_rfl
theorem shiftL {A P V : List Value} {a n : Nat} (hP : P.length = n) (hi : a ≤ n) (hA : A.take n = P) (hl : n + V.length ≤ A.length) :
    (((A.take (a + V.length) ++ P.drop a ++ A.drop (a + V.length + (P.drop a).length)).take a ++ V ++ (A.take (a + V.length) ++ P.drop a ++ A.drop (a + V.length + (P.drop a).length)).drop (a + V.length))).take (n + V.length) = P.take a ++ (V ++ P.drop a) := by
  have e0 : (A.take (a + V.length)).length = a + V.length := by rw [List.length_take]; omega
  have e1 : (A.take (a + V.length) ++ P.drop a ++ A.drop (a + V.length + (P.drop a).length)).take a = P.take a := by
    rw [List.append_assoc, List.take_append_of_le_length (by omega), List.take_take, ← hA, List.take_take]
    congr 1; omega
  have e2 : (A.take (a + V.length) ++ P.drop a ++ A.drop (a + V.length + (P.drop a).length)).drop (a + V.length) = P.drop a ++ A.drop (a + V.length + (P.drop a).length) := by
    rw [List.append_assoc, List.drop_append_of_le_length (by omega), List.drop_of_length_le (by omega), List.nil_append]
  rw [e1, e2]
  have e3 : P.take a ++ V ++ (P.drop a ++ A.drop (a + V.length + (P.drop a).length)) = (P.take a ++ (V ++ P.drop a)) ++ A.drop (a + V.length + (P.drop a).length) := by simp
  rw [e3, List.take_append_of_le_length (by simp; omega), List.take_of_length_le (by simp; omega)]
theorem spliceL {A B P V : List Value} {a n : Nat} (hP : P.length = n) (hi : a ≤ n) (hB : n + V.length - a ≤ B.length) (hA : A = P.take a ++ B) :
    (((A.take a ++ V ++ A.drop (a + V.length)).take (a + V.length) ++ P.drop a ++ (A.take a ++ V ++ A.drop (a + V.length)).drop (a + V.length + (P.drop a).length))).take (n + V.length) = P.take a ++ (V ++ P.drop a) := by
  have e0 : (P.take a).length = a := by rw [List.length_take]; omega
  have e1 : A.take a = P.take a := by rw [hA, List.take_append_of_le_length (by omega), List.take_of_length_le (by omega)]
  have e2 : (A.take a ++ V ++ A.drop (a + V.length)).take (a + V.length) = P.take a ++ V := by
    rw [e1, List.take_append_of_le_length (by simp; omega), List.take_of_length_le (by simp; omega)]
  rw [e2, List.take_append_of_le_length (by simp; omega), List.take_of_length_le (by simp; omega)]
  simp
theorem apart (vb g o lb cb : Nat) (cur vc : Array Value) (w : World) (hv : w.heap[vb]? = some (.cells vc 35 (0, 0))) (hg : w.heap[g]? = some (.cells cur 35 (0, 0))) (hne : vb ≠ g) (hc : cur.size ≠ 0) :
    (callFunc 71 #[.slice (some ⟨vb, 0, none⟩) 1 1, .slice (some ⟨g, o, none⟩) lb cb]).run Tryz.prog w = .ok (.value (.bool false)) w := by
  have h1 : w.shape? vb = some (35, vc.size) := by simp [World.shape?, hv]
  have h2 : w.shape? g = some (35, cur.size) := by simp [World.shape?, hg]
  rw [run_callFunc_extern Tryz.func71 (by kernel_rfl) (by kernel_rfl) (by kernel_rfl) (e := Extern.SlicesOverlaps.overlaps #[27, 27] #[4]) (by kernel_rfl),
    Lib.run_overlaps_apart w 27 4 35 Tryz.underlying27 6 Tryz.sizeOf35 ⟨vb, 0, none⟩ ⟨g, o, none⟩ 1 1 lb cb hne 35 35 vc.size cur.size h1 h2 hc (row_frz hv 0) (row_frz hv _)]
  rfl
theorem get_its {w : World} {g : Nat} {cur : Array Value} {l : List It} (hr : w.heap[g]? = some (.cells cur 35 (0, 0))) (ht : cur.toList.take (l.length * 6) = its l) {j : Nat} {v : Value} (hj : (its l)[j]? = some v) : w.cell? ⟨g, j, none⟩ = some v := by
  have hl : j < l.length * 6 := by rw [← its_len]; exact (List.getElem?_eq_some_iff.1 hj).1
  have := congrArg (fun z => z[j]?) ht
  simp only [List.getElem?_take, hl, if_true, Array.getElem?_toList] at this
  rw [row_cell hr, this, hj]
theorem get_row {w : World} {g : Nat} {x : It} (hr : w.heap[g]? = some (.cells #[.int .u64 x.id, .int .u32 x.mb, .int .i64 x.sd, .int .i64 x.ty, .int .i64 x.pr, .int .u64 x.qt] 35 (0, 0))) {j : Nat} {v : Value} (hj : (irow x).toList[j]? = some v) : w.cell? ((⟨g, 0, none⟩ : Addr).add j) = some v := by
  rw [Addr.add_lit, Nat.zero_add, row_cell hr]
  show (irow x)[j]? = some v
  rw [← Array.getElem?_toList]
  exact hj
/-- there is room, ahead of others. -/
theorem insert_shift (g c : Nat) (l : List It) (i : Nat) (x : It) (vb : Nat) (w : World) (h : Li w (some ⟨g, 0, none⟩) c l) (hi : i < l.length) (hroom : l.length + 1 ≤ c) (hn : l.length ≤ 4096) (hv : w.heap[vb]? = some (.cells #[.int .u64 x.id, .int .u32 x.mb, .int .i64 x.sd, .int .i64 x.ty, .int .i64 x.pr, .int .u64 x.qt] 35 (0, 0))) (hne : vb ≠ g) :
    Calls Tryz.prog 52 #[.slice (some ⟨g, 0, none⟩) l.length c, .int .i64 i, .slice (some ⟨vb, 0, none⟩) 1 1] w fun e w' => e = .returned (.slice (some ⟨g, 0, none⟩) (ins i x l).length c) ∧ Li w' (some ⟨g, 0, none⟩) c (ins i x l) ∧ Kp (fun b => b = g) w w' := by
  obtain ⟨g', cur, hp, hr, hcs, hlc, hcm, ht⟩ := h.some (by omega)
  obtain rfl : g = g' := by injection hp with hp; injection hp
  unfold maxLen at hcm
  have hcz : cur.size ≠ 0 := by omega
  have hov : ∀ o lb cb, (callFunc 71 #[.slice (some ⟨vb, 0, none⟩) 1 1, .slice (some ⟨g, o, none⟩) lb cb]).run Tryz.prog w = .ok (.value (.bool false)) w := fun o lb cb => apart vb g o lb cb cur _ w hv hr hne hcz
  obtain ⟨n, hnn⟩ : ∃ n, l.length = n := ⟨_, rfl⟩
  have HNN := hid hnn
  have hpl := its_len l
  rw [hnn] at hpl ht hi hroom hn hlc ⊢
  have hdl : ((its l).drop (i * 6)).length = (n - i) * 6 := by rw [List.length_drop, hpl]; omega
  obtain ⟨R1, hR1⟩ : ∃ R1, (cur.toList.take ((i + 1) * 6) ++ (its l).drop (i * 6) ++ cur.toList.drop ((i + 1) * 6 + ((its l).drop (i * 6)).length)).toArray = R1 := ⟨_, rfl⟩
  have hs1 : R1.size = c * 6 := by rw [← hR1]; simp [hdl]; omega
  have hcp1 : ∀ ty dc sc, (Builtin.copy_ #[71, 71] ty #[.slice (some ⟨g, (i + 1) * 6, none⟩) (n + 1 - (i + 1)) dc, .slice (some ⟨g, i * 6, none⟩) (n + 1 - i) sc]).run Tryz.prog w.drew = .ok (goInt (Nat.min (n + 1 - i) (n + 1 - (i + 1)))) (w.drew.setRow g R1) := fun ty dc sc => by
    rw [← hR1]
    refine run_copy_rows w.drew 71 71 ty 35 g ((i + 1) * 6) (n + 1 - (i + 1)) dc ⟨g, i * 6, none⟩ (n + 1 - i) sc cur 35 ((its l).drop (i * 6)) 6 Tryz.underlying71 sizeIt hr (by rw [hdl]; simp only [Nat.min_def]; split <;> omega) (fun j v hj => ?_) (by rw [hdl]; omega) (fun v hv => its_one l v (List.mem_of_mem_drop hv))
    rw [Addr.add_lit]
    rw [List.getElem?_drop] at hj
    exact get_its hr (by rw [hnn]; exact ht) hj
  have hg1 : (w.drew.setRow g R1).heap[g]? = some (.cells R1 35 (0, 0)) := setRow_heap w.drew g cur R1 35 (0, 0) hr
  have hv1 : (w.drew.setRow g R1).heap[vb]? = some (.cells #[.int .u64 x.id, .int .u32 x.mb, .int .i64 x.sd, .int .i64 x.ty, .int .i64 x.pr, .int .u64 x.qt] 35 (0, 0)) := by rw [setRow_other w.drew g vb R1 hne]; exact hv
  obtain ⟨R2, hR2⟩ : ∃ R2, (R1.toList.take (i * 6) ++ (irow x).toList ++ R1.toList.drop (i * 6 + (irow x).toList.length)).toArray = R2 := ⟨_, rfl⟩
  have hcp2 : ∀ ty dc, (Builtin.copy_ #[71, 27] ty #[.slice (some ⟨g, i * 6, none⟩) (n + 1 - i) dc, .slice (some ⟨vb, 0, none⟩) 1 1]).run Tryz.prog (w.drew.setRow g R1) = .ok (goInt (Nat.min 1 (n + 1 - i))) ((w.drew.setRow g R1).setRow g R2) := fun ty dc => by
    rw [← hR2]
    exact run_copy_rows (w.drew.setRow g R1) 71 27 ty 35 g (i * 6) (n + 1 - i) dc ⟨vb, 0, none⟩ 1 1 R1 35 (irow x).toList 6 Tryz.underlying71 sizeIt hg1 (by rw [irow_len]; simp only [Nat.min_def]; split <;> omega) (fun j v hj => get_row hv1 hj) (by rw [irow_len]; omega) (irow_one x)
  rw [setRow_setRow] at hcp2
  have hil : (ins i x l).length = n + 1 := by rw [ins_len (by omega), hnn]
  have HFIN := hid (show Li (w.drew.setRow g R2) (some ⟨g, 0, none⟩) c (ins i x l) from by
    have e2 : (w.drew.setRow g R2).heap[g]? = some (.cells R2 35 (0, 0)) := setRow_heap w.drew g cur R2 35 (0, 0) hr
    refine li_mk e2 (by rw [hil]; exact hroom) (by unfold maxLen; exact hcm) ?_ ?_
    · rw [← hR2]
      simp [irow_size, irow_len, hs1]
      omega
    · rw [hil, its_ins, ← hR2, ← hR1]
      have := shiftL (A := cur.toList) (P := its l) (V := (irow x).toList) (a := i * 6) (n := n * 6) hpl (by omega) ht (by simp [irow_size, irow_len, hcs]; omega)
      rw [irow_len, show i * 6 + 6 = (i + 1) * 6 by omega, show n * 6 + 6 = (n + 1) * 6 by omega] at this
      rw [irow_len, show i * 6 + 6 = (i + 1) * 6 by omega]
      exact this)
  have HIL := hid hil
  have w1 : IntKind.i64.wrap ((i : Int) + 1) = (i : Int) + 1 := by rw [IntKind.wrap_i64]; omega
  have b1 : (0 : Int) ≤ (i : Int) + 1 := by omega
  have t1 : ((i : Int) + 1).toNat = i + 1 := by omega
  have z3 : ((i : Int) == (n : Int)) = false := by
    have : ¬ (i : Int) = (n : Int) := by omega
    simpa using this
  have z4 : ¬ ((c : Int) < (n : Int) + 1) := by omega
  have z5 : decide ((c : Int) < (n : Int) + 1) = false := by simpa using z4
  have b2 : ¬ (c = i + 1) := by omega
  have b3 : ¬ (c = i) := by omega
  have b4 : (i : Int) ≤ (n : Int) + 1 := by omega
  have b5 : i ≤ n := by omega
  clear hR1 hR2 hg1 hv1 ht h hr hv hdl z4 hnn hpl hs1 hil
  go_enter Tryz.func52, Tryz.ntmps52
  go_wp2_with (simp only [hov])
  go_region_law (refine step_copy_known (by rfl) (.tmp 73) (.tmp 76) 71 71 (by rfl) (.slice (some ⟨g, (i + 1) * 6, none⟩) (n + 1 - (i + 1)) (c - (i + 1))) (.slice (some ⟨g, i * 6, none⟩) (n + 1 - i) (c - i)) (by simp [Act.eval, Act.put]) (by simp [Act.eval, Act.put]) (hcp1 _ _ _) ?_)
  go_wp2
  go_ret
  exact ⟨by rw [HIL.out]; rfl, HFIN.out, (Kp.of _ (bdrew1 w)).trans (setRow_kp _ _ _) (fun _ _ h => h)⟩
end Go.Proofs.YtnmkfdndfhefiaaGreat
namespace Go.Proofs.YtnmkfdndfhefiaaGreat
open Go.RowKit Go.Deep Go.Shelf
set_option linter.unusedVariables false
set_option linter.unusedSimpArgs false
set_option maxHeartbeats 4000000
set_option maxRecDepth 100000
theorem own_ofq {base : Nat} {w : World} {e : TypeId} {size n c k : Nat} {p : Option Addr} {xs : List Value} (h : w.ownsRow base e size (.slice p n c) n xs) (hk : (Value.slice p n c).ownBlock = some k) : OfP p k := by
  obtain ⟨_, ⟨e5, _⟩ | ⟨g', c', cur, e5, _⟩⟩ := h
  · rw [e5] at hk; cases hk
  · have e6 := (Value.slice.inj e5).1
    rw [e5] at hk; cases hk
    exact e6
theorem insert_end (p : Option Addr) (c : Nat) (l : List It) (x : It) (vb : Nat) (w : World) (h : Li w p c l) (hn : l.length ≤ 4096) (hv : w.heap[vb]? = some (.cells #[.int .u64 x.id, .int .u32 x.mb, .int .i64 x.sd, .int .i64 x.ty, .int .i64 x.pr, .int .u64 x.qt] 35 (0, 0))) :
    Calls Tryz.prog 52 #[.slice p l.length c, .int .i64 l.length, .slice (some ⟨vb, 0, none⟩) 1 1] w fun e w' => ∃ p' c', e = .returned (.slice p' (ins l.length x l).length c') ∧ Li w' p' c' (ins l.length x l) ∧ (∀ g, OfP p' g → OfP p g ∨ w.heap.size ≤ g) ∧ Kp (OfP p) w w' := by
  obtain ⟨i0, hi0, hz0, hz1, hz2⟩ := info_parts infoIt
  have hil : (ins l.length x l).length = l.length + 1 := ins_len (Nat.le_refl _)
  have hie : its (ins l.length x l) = its l ++ (irow x).toList := by
    rw [its_ins, List.take_of_length_le (by rw [its_len]; exact Nat.le_refl _), List.drop_of_length_le (by rw [its_len]; exact Nat.le_refl _), List.append_nil]
  obtain ⟨g, cap, w', hrun, hown, hgr, hwh, hlt⟩ := run_append_lies (P := Tryz.prog) w 71 71 0 35 i0 _ 6 48 Tryz.underlying71 hi0 hz0 hz1 hz2 rfl (by decide) (.slice p l.length c) l.length (its l) h ⟨vb, 0, none⟩ 1 1 (irow x).toList rfl (fun j u hj => get_row hv hj) (irow_one x) (by omega) (by unfold maxLen; omega) (by omega) (Nat.zero_le _) w.heap.size rfl
  have hap : ∀ ty, (Builtin.append_ #[71, 27] ty #[.slice p l.length c, .slice (some ⟨vb, 0, none⟩) 1 1]).run Tryz.prog w = .ok (.slice (some ⟨g, 0, none⟩) (l.length + 1) cap) w' := fun ty => by
    rw [run_append_tx w 71 27 ty 35 35 Tryz.underlying71 Tryz.underlying27]
    have : (Builtin.append_ #[71, 71] ty #[.slice p l.length c, .slice (some ⟨vb, 0, none⟩) 1 1]).run Tryz.prog w = (Builtin.append_ #[71, 71] 71 #[.slice p l.length c, .slice (some ⟨vb, 0, none⟩) 1 1]).run Tryz.prog w := rfl
    rw [this, hrun]
  have HFIN := hid (show ∃ p' c', Ending.returned (.slice (some ⟨g, 0, none⟩) (l.length + 1) cap) = .returned (.slice p' (ins l.length x l).length c') ∧ Li w' p' c' (ins l.length x l) ∧ (∀ g, OfP p' g → OfP p g ∨ w.heap.size ≤ g) ∧ Kp (OfP p) w w' from by
    refine ⟨some ⟨g, 0, none⟩, cap, by rw [hil], ?_, fun b hb => ?_, ⟨hgr.os, hgr.tape, hgr.output, hgr.size, fun b hb hB => hgr.block b hb (fun e => hB (own_ofq h e.symm))⟩⟩
    · unfold Li
      rw [hil, hie]
      exact hown
    · rw [hb.eq]
      rcases hwh with hwh | hwh
      · exact .inl (own_ofq h hwh)
      · exact .inr (by omega))
  obtain ⟨n, hnn⟩ : ∃ n, l.length = n := ⟨_, rfl⟩
  rw [hnn] at hap HFIN hn ⊢
  have hc2 := h.cap
  have zq : ((n : Int) == (n : Int)) = true := by simp
  have hcn : n ≤ c := by omega
  have hc63 : c < 9223372036854775808 := hc2.2
  rw [← hnn]
  rw [← hnn] at HFIN
  have HNN := hid hnn
  clear h hv hrun hown hgr hwh hi0 hz0 hz1 hz2 hil hie hc2
  rw [hnn]
  clear hnn
  cases p with
  | none =>
    go_enter Tryz.func52, Tryz.ntmps52
    go_wp2_with (at_builtin; refine Lib.wpList_append_run _ rfl _ _ _ _ rfl _ _ rfl rfl _ _ (hap _) ?_)
    all_goals (go_ret; have := HFIN.out; rw [HNN.out] at this; exact this)
  | some a =>
    obtain ⟨ab, ao, asp⟩ := a
    go_enter Tryz.func52, Tryz.ntmps52
    go_wp2_with (at_builtin; refine Lib.wpList_append_run _ rfl _ _ _ _ rfl _ _ rfl rfl _ _ (hap _) ?_)
    all_goals (go_ret; have := HFIN.out; rw [HNN.out] at this; exact this)
theorem insert_grow (g c : Nat) (l : List It) (i : Nat) (x : It) (vb : Nat) (w : World) (h : Li w (some ⟨g, 0, none⟩) c l) (hi : i < l.length) (hnr : c < l.length + 1) (hn : l.length ≤ 4096) (hv : w.heap[vb]? = some (.cells #[.int .u64 x.id, .int .u32 x.mb, .int .i64 x.sd, .int .i64 x.ty, .int .i64 x.pr, .int .u64 x.qt] 35 (0, 0))) :
    Calls Tryz.prog 52 #[.slice (some ⟨g, 0, none⟩) l.length c, .int .i64 i, .slice (some ⟨vb, 0, none⟩) 1 1] w fun e w' => ∃ N G, e = .returned (.slice (some ⟨N, 0, none⟩) (ins i x l).length G) ∧ Li w' (some ⟨N, 0, none⟩) G (ins i x l) ∧ w.heap.size ≤ N ∧ Below w.heap.size w w' := by
  obtain ⟨i0, hi0, hz0, hs0, hb0⟩ := info_parts infoIt
  obtain ⟨g', cur, hp, hr, hcs, hlc, hcm, ht⟩ := h.some (by omega)
  obtain rfl : g = g' := by injection hp with hp; injection hp
  have hcl : c = l.length := by omega
  subst hcl
  obtain ⟨n, hnn⟩ : ∃ n, l.length = n := ⟨_, rfl⟩
  have HNN := hid hnn
  have hpl := its_len l
  rw [hnn] at hpl ht hi hnr hn hlc hcs hcm ⊢
  have htl : ((its l).take (i * 6)).length = i * 6 := by rw [List.length_take, hpl]; omega
  have hold : (Builtin.firstCells i0.size i (.slice (some ⟨g, 0, none⟩) i n)).run Tryz.prog w.drew = .ok ((its l).take (i * 6)).toArray w.drew := by
    rw [hs0]
    refine run_firstCells_some w.drew 6 i ⟨g, 0, none⟩ i n ((its l).take (i * 6)) htl (fun j v hj => ?_)
    have hj2 : j < i * 6 := by have := (List.getElem?_eq_some_iff.1 hj).1; omega
    rw [Addr.add_lit, Nat.zero_add]
    rw [List.getElem?_take, if_pos hj2] at hj
    exact get_its hr (by rw [hnn]; exact ht) hj
  obtain ⟨G, hG⟩ : ∃ G, grownCap w (n + 1) n 35 = G := ⟨_, rfl⟩
  obtain ⟨ROW, hROW⟩ : ∃ ROW : Array Value, ((its l).take (i * 6)).toArray ++ Builtin.zeroCells (Value.agg #[.int .u64 0, .int .u32 0, .int .i64 0, .int .i64 0, .int .i64 0, .int .u64 0]).cells (n + 1 - i) ++ Builtin.zeroCells (Value.agg #[.int .u64 0, .int .u32 0, .int .i64 0, .int .i64 0, .int .i64 0, .int .u64 0]).cells (G - (n + 1)) = ROW := ⟨_, rfl⟩
  have hkk : (n : Int) + 1 - (i : Int) = ((n + 1 - i : Nat) : Int) := by omega
  have hik : i + (n + 1 - i) = n + 1 := by omega
  obtain ⟨W1, hW1⟩ : ∃ W1, w.drew.alloc (.cells ROW 35) = W1 := ⟨_, rfl⟩
  have hap : ∀ ty, (Builtin.append_ #[71, 3] ty #[.slice (some ⟨g, 0, none⟩) i n, .int .i64 ((n : Int) + 1 - (i : Int))]).run Tryz.prog w = .ok (.slice (some ⟨w.heap.size, 0, none⟩) (n + 1) G) W1 := fun ty => by
    have h := Lib.run_append_grow_zeros w 71 3 ty 35 i0 _ .i64 .i64 Tryz.underlying71 Tryz.underlying3 hi0 hz0 (some ⟨g, 0, none⟩) i n ((its l).take (i * 6)) hold (n + 1 - i) (by omega) (by omega) (by omega) (by omega) (by rw [hb0]; omega) (by rw [hb0, hik]; exact growslice_fits hnr (by omega))
    rw [hik] at h
    rw [hkk, h, ← hW1, ← hROW, ← hG]
  have hG1 : n + 1 ≤ G := by rw [← hG]; exact grownCap_ge w _ _ _
  have hG2 : G ≤ maxLen := by rw [← hG]; exact grownCap_le_maxLen w (n + 1) n 35 (by unfold maxLen; omega)
  have hsz : ROW.size = G * 6 := by
    rw [← hROW]
    simp [Builtin.zeroCells, Value.cells, htl]
    omega
  have hb1 : Below w.heap.size w W1 := by rw [← hW1]; exact btr (bdrew1 w) (ball w.drew _)
  have hN : W1.heap[w.heap.size]? = some (.cells ROW 35 (0, 0)) := by rw [← hW1]; exact World.alloc_heap_new w.drew _
  obtain ⟨R1, hR1⟩ : ∃ R1, (ROW.toList.take (i * 6) ++ (irow x).toList ++ ROW.toList.drop (i * 6 + (irow x).toList.length)).toArray = R1 := ⟨_, rfl⟩
  have hs1 : R1.size = G * 6 := by rw [← hR1]; simp [irow_size, irow_len]; omega
  have hcp1 : ∀ ty dc, (Builtin.copy_ #[71, 27] ty #[.slice (some ⟨w.heap.size, i * 6, none⟩) (n + 1 - i) dc, .slice (some ⟨vb, 0, none⟩) 1 1]).run Tryz.prog W1 = .ok (goInt (Nat.min 1 (n + 1 - i))) (W1.setRow w.heap.size R1) := fun ty dc => by
    rw [← hR1]
    exact run_copy_rows W1 71 27 ty 35 w.heap.size (i * 6) (n + 1 - i) dc ⟨vb, 0, none⟩ 1 1 ROW 35 (irow x).toList 6 Tryz.underlying71 sizeIt hN (by rw [irow_len]; simp only [Nat.min_def]; split <;> omega) (fun j v hj => get_row (row_on hv hb1) hj) (by rw [irow_len]; omega) (irow_one x)
  obtain ⟨W2, hW2⟩ : ∃ W2, W1.setRow w.heap.size R1 = W2 := ⟨_, rfl⟩
  have hN2 : W2.heap[w.heap.size]? = some (.cells R1 35 (0, 0)) := by rw [← hW2]; exact setRow_heap W1 w.heap.size ROW R1 35 (0, 0) hN
  have hb2 : Below w.heap.size w W2 := by
    rw [← hW2]
    exact setRow_below hb1 (Nat.le_refl _)
  have hdl : ((its l).drop (i * 6)).length = (n - i) * 6 := by rw [List.length_drop, hpl]; omega
  obtain ⟨R2, hR2⟩ : ∃ R2, (R1.toList.take ((i + 1) * 6) ++ (its l).drop (i * 6) ++ R1.toList.drop ((i + 1) * 6 + ((its l).drop (i * 6)).length)).toArray = R2 := ⟨_, rfl⟩
  have hs2 : R2.size = G * 6 := by rw [← hR2]; simp [hdl]; omega
  have hcp2 : ∀ ty dc sc, (Builtin.copy_ #[71, 71] ty #[.slice (some ⟨w.heap.size, (i + 1) * 6, none⟩) (n + 1 - (i + 1)) dc, .slice (some ⟨g, i * 6, none⟩) (n - i) sc]).run Tryz.prog W2.drew = .ok (goInt (Nat.min (n - i) (n + 1 - (i + 1)))) (W2.drew.setRow w.heap.size R2) := fun ty dc sc => by
    rw [← hR2]
    refine run_copy_rows W2.drew 71 71 ty 35 w.heap.size ((i + 1) * 6) (n + 1 - (i + 1)) dc ⟨g, i * 6, none⟩ (n - i) sc R1 35 ((its l).drop (i * 6)) 6 Tryz.underlying71 sizeIt hN2 (by rw [hdl]; simp only [Nat.min_def]; split <;> omega) (fun j v hj => ?_) (by rw [hdl]; omega) (fun v hv => its_one l v (List.mem_of_mem_drop hv))
    rw [Addr.add_lit]
    rw [List.getElem?_drop] at hj
    exact get_its (row_on hr hb2) (by rw [hnn]; exact ht) hj
  have hil : (ins i x l).length = n + 1 := by rw [ins_len (by omega), hnn]
  have HFIN := hid (show ∃ N G', Ending.returned (.slice (some ⟨w.heap.size, 0, none⟩) (n + 1) G) = .returned (.slice (some ⟨N, 0, none⟩) (ins i x l).length G') ∧ Li (W2.drew.setRow w.heap.size R2) (some ⟨N, 0, none⟩) G' (ins i x l) ∧ w.heap.size ≤ N ∧ Below w.heap.size w (W2.drew.setRow w.heap.size R2) from by
    have hb3 : Below w.heap.size w (W2.drew.setRow w.heap.size R2) := setRow_below (btr hb2 (bdrew1 W2)) (Nat.le_refl _)
    refine ⟨w.heap.size, G, by rw [hil], li_mk (setRow_heap W2.drew w.heap.size R1 R2 35 (0, 0) hN2) (by rw [hil]; exact hG1) hG2 hs2 ?_, Nat.le_refl _, hb3⟩
    rw [hil, its_ins, ← hR2, ← hR1]
    have := spliceL (A := ROW.toList) (B := (Builtin.zeroCells (Value.agg #[.int .u64 0, .int .u32 0, .int .i64 0, .int .i64 0, .int .i64 0, .int .u64 0]).cells (n + 1 - i) ++ Builtin.zeroCells (Value.agg #[.int .u64 0, .int .u32 0, .int .i64 0, .int .i64 0, .int .i64 0, .int .u64 0]).cells (G - (n + 1))).toList) (P := its l) (V := (irow x).toList) (a := i * 6) (n := n * 6) hpl (by omega) (by simp [irow_size, irow_len, Builtin.zeroCells, Value.cells]; omega) (by rw [← hROW]; simp)
    rw [irow_len, show i * 6 + 6 = (i + 1) * 6 by omega, show n * 6 + 6 = (n + 1) * 6 by omega] at this
    rw [irow_len, show i * 6 + 6 = (i + 1) * 6 by omega]
    exact this)
  rw [hW2] at hcp1
  have w1 : IntKind.i64.wrap ((i : Int) + 1) = (i : Int) + 1 := by rw [IntKind.wrap_i64]; omega
  have b1 : (0 : Int) ≤ (i : Int) + 1 := by omega
  have t1 : ((i : Int) + 1).toNat = i + 1 := by omega
  have z3 : ((i : Int) == (n : Int)) = false := by
    have : (i : Int) ≠ (n : Int) := by omega
    simpa using this
  have b2 : ¬ (G = i + 1) := by omega
  have b3 : ¬ (G = i) := by omega
  have b6 : ¬ (n = i) := by omega
  have b4 : (i : Int) ≤ (n : Int) + 1 := by omega
  have b5 : i ≤ n := by omega
  unfold maxLen at hG2
  clear hR1 hR2 hW1 hW2 hN hN2 ht h hr hv hold hROW hG hkk hik hi0 hz0 hb1 hb2 hil hnn hpl
  go_enter Tryz.func52, Tryz.ntmps52
  go_wp2_with (at_builtin; refine Lib.wpList_append_run _ rfl _ _ _ _ rfl _ _ rfl rfl _ _ (hap _) ?_)
  go_region_law (refine step_copy_known (by rfl) (.tmp 50) (.tmp 53) 71 71 (by rfl) (.slice (some ⟨w.heap.size, (i + 1) * 6, none⟩) (n + 1 - (i + 1)) (G - (i + 1))) (.slice (some ⟨g, i * 6, none⟩) (n - i) (n - i)) (by simp [Act.eval, Act.put]) (by simp [Act.eval, Act.put]) (hcp2 _ _ _) ?_)
  go_wp2
  go_ret
  exact HFIN.out
/-- an interest is put into a list. -/
theorem insert_any (p : Option Addr) (c : Nat) (l : List It) (i : Nat) (x : It) (vb : Nat) (w : World) (h : Li w p c l) (hi : i ≤ l.length) (hn : l.length ≤ 4096) (hv : w.heap[vb]? = some (.cells #[.int .u64 x.id, .int .u32 x.mb, .int .i64 x.sd, .int .i64 x.ty, .int .i64 x.pr, .int .u64 x.qt] 35 (0, 0))) (hne : ¬ OfP p vb) :
    Calls Tryz.prog 52 #[.slice p l.length c, .int .i64 i, .slice (some ⟨vb, 0, none⟩) 1 1] w fun e w' => ∃ p' c', e = .returned (.slice p' (ins i x l).length c') ∧ Li w' p' c' (ins i x l) ∧ (∀ g, OfP p' g → OfP p g ∨ w.heap.size ≤ g) ∧ Kp (OfP p) w w' := by
  by_cases he : i = l.length
  · subst he; exact insert_end p c l x vb w h hn hv
  · have hlt : i < l.length := by omega
    obtain ⟨g, cur, rfl, _⟩ := h.some (by omega)
    by_cases hroom : l.length + 1 ≤ c
    · refine (insert_shift g c l i x vb w h hlt hroom hn hv (fun e => hne (by rw [e]; exact OfP.mk g))).mono ?_
      rintro e w' ⟨rfl, h1, h2⟩
      exact ⟨_, _, rfl, h1, fun b hb => .inl hb, h2.mono (fun b _ e => by rw [e]; exact OfP.mk g)⟩
    · refine (insert_grow g c l i x vb w h hlt (by omega) hn hv).mono ?_
      rintro e w' ⟨N, G, rfl, h1, h2, h3⟩
      exact ⟨_, _, rfl, h1, fun b hb => .inr (by rw [hb.eq]; exact h2), Kp.of _ h3⟩
end Go.Proofs.YtnmkfdndfhefiaaGreat
namespace Go.Proofs.YtnmkfdndfhefiaaGreat
open Go.RowKit Go.Deep Go.Shelf
set_option linter.unusedVariables false
set_option linter.unusedSimpArgs false
set_option maxHeartbeats 4000000
set_option maxRecDepth 100000
attribute [local go_sem ↓] Go.wp_at_zero Go.wp_at_succ
theorem enter1_any (I L B k : Nat) (x : It) (q : Option Addr) (c : Nat) (l : List It) (i : Nat) (hi : i < l.length) (w : World) (h : Li w q c l) (hI : w.heap[I]? = some (.cells #[.int .u64 x.id, .int .u32 x.mb, .int .i64 x.sd, .int .i64 x.ty, .int .i64 x.pr, .int .u64 x.qt] 35 (0, 0))) (hL : w.cell? ⟨L, 0, none⟩ = some (.pointer (some ⟨B, k, none⟩))) (hB : w.cell? ⟨B, k, none⟩ = some (.slice q l.length c)) (sL : L < w.heap.size) (sB : B < w.heap.size) :
    Calls Tryz.prog 50 #[.int .i64 i, .pointer (some ⟨I, 0, none⟩), .pointer (some ⟨L, 0, none⟩)] w fun e w' => e = .returned (.bool (ahd x l[i])) ∧ Below w.heap.size w w' := by
  obtain ⟨g, rfl, a0, a1, a2, a3, a4, a5⟩ := h.cells hi
  obtain ⟨cu, hg⟩ := h.ty (OfP.mk g)
  have sg := row_lt hg
  obtain ⟨z, hz⟩ : ∃ z, l[i] = z := ⟨_, rfl⟩
  rw [hz] at a0 a1 a2 a3 a4 a5 ⊢
  obtain ⟨n, hn⟩ : ∃ n, l.length = n := ⟨_, rfl⟩
  rw [hn] at hB
  have i0 : (0 : Int) ≤ (i : Int) := by omega
  have i1 : (i : Int) < (n : Int) := by omega
  have HS := hid (show ∀ U, Below w.heap.size w U → U.cell? ⟨I, 0, none⟩ = some (.int .u64 x.id) ∧ U.cell? ⟨I, 1, none⟩ = some (.int .u32 x.mb) ∧ U.cell? ⟨I, 2, none⟩ = some (.int .i64 x.sd) ∧ U.cell? ⟨I, 3, none⟩ = some (.int .i64 x.ty) ∧ U.cell? ⟨I, 4, none⟩ = some (.int .i64 x.pr) ∧ U.cell? ⟨I, 5, none⟩ = some (.int .u64 x.qt) ∧ U.cell? ⟨L, 0, none⟩ = some (.pointer (some ⟨B, k, none⟩)) ∧ U.cell? ⟨B, k, none⟩ = some (.slice (some ⟨g, 0, none⟩) n c) ∧ U.cell? ⟨g, i * 6, none⟩ = some (.int .u64 z.id) ∧ U.cell? ⟨g, i * 6 + 1, none⟩ = some (.int .u32 z.mb) ∧ U.cell? ⟨g, i * 6 + 2, none⟩ = some (.int .i64 z.sd) ∧ U.cell? ⟨g, i * 6 + 3, none⟩ = some (.int .i64 z.ty) ∧ U.cell? ⟨g, i * 6 + 4, none⟩ = some (.int .i64 z.pr) ∧ U.cell? ⟨g, i * 6 + 5, none⟩ = some (.int .u64 z.qt) from fun U hU => by
    obtain ⟨b0, b1, b2, b3, b4, b5⟩ := row6 (row_on hI hU)
    exact ⟨b0, b1, b2, b3, b4, b5, (hU.cell (p := ⟨L, 0, none⟩) sL).trans hL, (hU.cell (p := ⟨B, k, none⟩) sB).trans hB, (hU.cell (p := ⟨g, i * 6, none⟩) sg).trans a0, (hU.cell (p := ⟨g, i * 6 + 1, none⟩) sg).trans a1, (hU.cell (p := ⟨g, i * 6 + 2, none⟩) sg).trans a2, (hU.cell (p := ⟨g, i * 6 + 3, none⟩) sg).trans a3, (hU.cell (p := ⟨g, i * 6 + 4, none⟩) sg).trans a4, (hU.cell (p := ⟨g, i * 6 + 5, none⟩) sg).trans a5⟩)
  have C := hid (fun U (hU : Below w.heap.size w U) => on_b (ahead_any x z U) hU)
  clear h hz hn hg hi hI hL hB a0 a1 a2 a3 a4 a5
  go_enter Tryz.func50, Tryz.ntmps50
  go_upto_region 1 with fail
  obtain ⟨k0, k1, k2, k3, k4, k5, k6, k7, k8, k9, k10, k11, k12, k13⟩ := HS.out w (Below.refl _ _)
  go_region_held3 (fun U => U.cell? ⟨I, 0, none⟩ = some (.int .u64 x.id) ∧ U.cell? ⟨I, 1, none⟩ = some (.int .u32 x.mb) ∧ U.cell? ⟨I, 2, none⟩ = some (.int .i64 x.sd) ∧ U.cell? ⟨I, 3, none⟩ = some (.int .i64 x.ty) ∧ U.cell? ⟨I, 4, none⟩ = some (.int .i64 x.pr) ∧ U.cell? ⟨I, 5, none⟩ = some (.int .u64 x.qt) ∧ U.cell? ⟨L, 0, none⟩ = some (.pointer (some ⟨B, k, none⟩)) ∧ U.cell? ⟨B, k, none⟩ = some (.slice (some ⟨g, 0, none⟩) n c) ∧ U.cell? ⟨g, i * 6, none⟩ = some (.int .u64 z.id) ∧ U.cell? ⟨g, i * 6 + 1, none⟩ = some (.int .u32 z.mb) ∧ U.cell? ⟨g, i * 6 + 2, none⟩ = some (.int .i64 z.sd) ∧ U.cell? ⟨g, i * 6 + 3, none⟩ = some (.int .i64 z.ty) ∧ U.cell? ⟨g, i * 6 + 4, none⟩ = some (.int .i64 z.pr) ∧ U.cell? ⟨g, i * 6 + 5, none⟩ = some (.int .u64 z.qt)) (go_keep) (first | (go_at_call 51; with_reducible refine (C.out _ (bdrew1 w)).mono ?_; rintro e w1 ⟨rfl, HB1⟩; obtain ⟨k0, k1, k2, k3, k4, k5, k6, k7, k8, k9, k10, k11, k12, k13⟩ := HS.out w1 HB1.out))
  go_wp2
  go_ret
  exact ⟨rfl, HB1.out⟩
theorem search_e (I L B k : Nat) (s : Int) (x : It) (q : Option Addr) (c : Nat) (l : List It) (w : World) (h : Li w q c l) (hI : w.heap[I]? = some (.cells #[.int .u64 x.id, .int .u32 x.mb, .int .i64 x.sd, .int .i64 x.ty, .int .i64 x.pr, .int .u64 x.qt] 35 (0, 0))) (hL : w.cell? ⟨L, 0, none⟩ = some (.pointer (some ⟨B, k, none⟩))) (hB : w.cell? ⟨B, k, none⟩ = some (.slice q l.length c)) (sL : L < w.heap.size) (sB : B < w.heap.size) (ho : Sd s l) (hx : Ik s x) :
    Calls Tryz.prog 49 #[.int .i64 l.length, .func (.func 50) #[] #[.pointer (some ⟨I, 0, none⟩), .pointer (some ⟨L, 0, none⟩)]] w fun e w' => e = .returned (.int .i64 (bh x l)) ∧ Below w.heap.size w w' := by
  have hn := ho.ln
  have HL := hid h
  have HC := hid (And.intro hI (And.intro hL hB))
  have HO := hid ho
  have HX := hid hx
  clear h hI hL hB ho hx
  go_enter Tryz.func49, Tryz.ntmps49
  go_wp2
  go_loopw [5, 6] (fun iv jv wr => ∃ i j : Nat, i ≤ j ∧ j ≤ l.length ∧ iv = .int .i64 i ∧ jv = .int .i64 j ∧ Hid (∀ k (hk : k < l.length), k < i → ahd x l[k] = false) ∧ Hid (∀ k (hk : k < l.length), j ≤ k → ahd x l[k] = true) ∧ Hid (Below w.heap.size w wr)) (fun iv jv _ => (intOf jv).toNat - (intOf iv).toNat)
  case atStart => exact ⟨0, l.length, by omega, by omega, rfl, rfl, fun k _ hk => by omega, fun k _ hk => by omega, Below.refl _ _⟩
  case round =>
    obtain ⟨i, j, hij, hj, rfl, rfl, H1, H2, HB⟩ := hrel
    by_cases hlt : i < j
    · obtain ⟨m, hm⟩ : ∃ m, (i + j) / 2 = m := ⟨_, rfl⟩
      have hm1 : i ≤ m := by omega
      have hm2 : m < j := by omega
      have hml : m < l.length := by omega
      have C1 := hid (enter1_any I L B k x q c l m hml wr (HL.out.on HB.out) (row_on HC.out.1 HB.out) ((HB.out.cell (p := ⟨L, 0, none⟩) sL).trans HC.out.2.1) ((HB.out.cell (p := ⟨B, k, none⟩) sB).trans HC.out.2.2) (Nat.lt_of_lt_of_le sL HB.out.size) (Nat.lt_of_lt_of_le sB HB.out.size))
      have a1 : IntKind.u64.wrap ((i : Int) + (j : Int)) = (i : Int) + (j : Int) := by rw [IntKind.wrap_u64]; omega
      have a2 : ((i : Int) + (j : Int)) / 2 = (m : Int) := by omega
      have a3 : IntKind.i64.wrap (m : Int) = (m : Int) := by rw [IntKind.wrap_i64]; omega
      have HM := hid hm
      clear hm
      obtain ⟨bv, hbv⟩ : ∃ b, ahd x l[m] = b := ⟨_, rfl⟩
      rw [hbv] at C1
      have HBV := hid hbv
      clear hbv
      cases bv with
      | true =>
        go_wp2_with (go_at_call 50; with_reducible refine (C1.out).mono ?_; rintro e w1 ⟨rfl, hb1⟩; have HB1 := hid hb1; clear hb1)
        go_roundw
        case rel => exact ⟨i, m, hm1, by omega, rfl, rfl, H1.out, fun k hk hmk => HO.out.up HX.out hml hk hmk HBV.out, btr HB.out HB1.out⟩
        case measure => simp [intOf]; omega
      | false =>
        go_wp2_with (go_at_call 50; with_reducible refine (C1.out).mono ?_; rintro e w1 ⟨rfl, hb1⟩; have HB1 := hid hb1; clear hb1)
        go_roundw
        case rel =>
          refine ⟨m + 1, j, by omega, by omega, by go_num, rfl, fun k hk hkm => ?_, H2.out, btr HB.out HB1.out⟩
          cases hx : ahd x l[k] with
          | false => rfl
          | true =>
            have := HO.out.up HX.out hk hml (by omega) hx
            rw [HBV.out] at this; cases this
        case measure => simp [intOf]; omega
    · have hi5 : i = j := by omega
      subst hi5
      go_wp2
      go_ret
      exact ⟨by rw [show bh x l = i from tw_eq hj (fun k hk hki => by simp [H1.out k hk hki]) (fun hk => by simp [H2.out i hk (Nat.le_refl _)])]; rfl, HB.out⟩
theorem li_set {w : World} {p : Option Addr} {c B k : Nat} {l : List It} {row : Array Value} {t : TypeId} {v : Value} (h : Li w p c l) (hB : w.heap[B]? = some (.cells row t (0, 0))) (t1 : t ≠ 35) : Li (w.setCell ⟨B, k, none⟩ v) p c l :=
  h.kept (Kp.set w B k v) (fun g hg e => by
    obtain ⟨cur, hc⟩ := h.ty hg
    exact row_ne hB hc t1 e.symm)
theorem lenter_any (B k : Nat) (s : Int) (row : Array Value) (x : It) (p : Option Addr) (c : Nat) (l : List It) (w : World) (hB : w.heap[B]? = some (.cells row 74 (0, 0))) (hk : row[k]? = some (.slice p l.length c)) (h : Li w p c l) (ho : Sd s l) (hx : Ik s x) (hl : l.length < 4096) :
    Calls Tryz.prog 31 #[.pointer (some ⟨B, k, none⟩), .agg #[.int .u64 x.id, .int .u32 x.mb, .int .i64 x.sd, .int .i64 x.ty, .int .i64 x.pr, .int .u64 x.qt]] w fun e w' => e = .returned (.tuple #[]) ∧ ∃ p' c', w'.heap[B]? = some (.cells (row.setIfInBounds k (.slice p' (ent x l).length c')) 74 (0, 0)) ∧ Li w' p' c' (ent x l) ∧ (∀ g, OfP p' g → OfP p g ∨ w.heap.size ≤ g) ∧ Kp (fun b => b = B ∨ OfP p b) w w' := by
  obtain ⟨R, hR⟩ : ∃ R, w.heap.size = R := ⟨_, rfl⟩
  obtain ⟨U1, hU1⟩ : ∃ U, w.alloc (.cells #[.pointer (some ⟨B, k, none⟩)] 76) = U := ⟨_, rfl⟩
  obtain ⟨W, hW⟩ : ∃ U, U1.alloc (.cells #[.int .u64 x.id, .int .u32 x.mb, .int .i64 x.sd, .int .i64 x.ty, .int .i64 x.pr, .int .u64 x.qt] 35) = U := ⟨_, rfl⟩
  have s1 : U1.heap.size = R + 1 := by rw [← hU1, ← hR]; simp
  have b1 : Below w.heap.size w U1 := by rw [← hU1]; exact ball _ _
  have b2 : Below U1.heap.size U1 W := by rw [← hW]; exact ball _ _
  have HBW := hid (btr b1 b2)
  have HL := hid (show W.heap[R]? = some (.cells #[.pointer (some ⟨B, k, none⟩)] 76 (0, 0)) from row_on (by rw [← hU1, ← hR]; exact World.alloc_heap_new _ _) b2)
  have HI := hid (show W.heap[R + 1]? = some (.cells #[.int .u64 x.id, .int .u32 x.mb, .int .i64 x.sd, .int .i64 x.ty, .int .i64 x.pr, .int .u64 x.qt] 35 (0, 0)) from by rw [← hW, ← s1]; exact World.alloc_heap_new _ _)
  have HBr := hid hB
  have HLi := hid h
  have HBW' := hid (row_on hB HBW.out)
  have kR := row_cell HL.out 0
  simp only [List.getElem?_toArray, List.getElem?_cons_zero] at kR
  have kB : W.cell? ⟨B, k, none⟩ = some (.slice p l.length c) := by rw [row_cell HBW'.out, hk]
  have CS := hid (search_e (R + 1) R B k s x p c l W (h.on HBW.out) HI.out kR kB (row_lt HL.out) (row_lt HBW'.out) ho hx)
  have hbl := bh_le x l
  have CIN := hid (fun (vb : Nat) (U : World) (hU : Li U p c l) (hv : U.heap[vb]? = some (.cells #[.int .u64 x.id, .int .u32 x.mb, .int .i64 x.sd, .int .i64 x.ty, .int .i64 x.pr, .int .u64 x.qt] 35 (0, 0))) (hne : ¬ OfP p vb) => insert_any p c l (bh x l) x vb U hU hbl (by omega) hv hne)
  change Hid (∀ (vb : Nat) (U : World), Li U p c l → U.heap[vb]? = some (.cells #[.int .u64 x.id, .int .u32 x.mb, .int .i64 x.sd, .int .i64 x.ty, .int .i64 x.pr, .int .u64 x.qt] 35 (0, 0)) → ¬ OfP p vb → Calls Tryz.prog 52 #[.slice p l.length c, .int .i64 (bh x l), .slice (some ⟨vb, 0, none⟩) 1 1] U fun e w' => ∃ p' c', e = .returned (.slice p' (ent x l).length c') ∧ Li w' p' c' (ent x l) ∧ (∀ g, OfP p' g → OfP p g ∨ U.heap.size ≤ g) ∧ Kp (OfP p) U w') at CIN
  have HPB := hid (show ∀ g, OfP p g → g < w.heap.size ∧ g ≠ B from fun g hg => by
    obtain ⟨cu, hc⟩ := h.ty hg
    exact ⟨row_lt hc, row_ne hc hB (by decide)⟩)
  have HKR := hid hk
  have sB := row_lt hB
  obtain ⟨n, hn⟩ : ∃ n, l.length = n := ⟨_, rfl⟩
  obtain ⟨m, hm⟩ : ∃ m, bh x l = m := ⟨_, rfl⟩
  obtain ⟨E, hE⟩ : ∃ E, ent x l = E := ⟨_, rfl⟩
  have HEE := hid hE
  rw [hn] at CS CIN kB
  rw [hm] at CS CIN
  rw [hE] at CIN ⊢
  obtain ⟨ne, hne⟩ : ∃ n, E.length = n := ⟨_, rfl⟩
  rw [hne] at CIN ⊢
  have HNE := hid hne
  have HNN := hid hn
  have H1 := hid hU1
  have HW := hid hW
  have HRR := hid hR
  clear hU1 hW hR s1 b1 b2 hB hk h ho hx hl hbl hn hm hE hne
  go_enter Tryz.func31, Tryz.ntmps31
  go_upto_region 1 with fail
  rw [H1.out, HW.out, HRR.out]
  go_upto_region 2 with (go_at_call 49; with_reducible refine (CS.out).mono ?_; rintro e v1 ⟨rfl, hb⟩; have V1 := hid hb; clear hb)
  clear kR kB
  obtain ⟨Y0, hY0⟩ : ∃ X, v1.drew = X := ⟨_, rfl⟩
  have V2 := hid (show Below W.heap.size W Y0 from by rw [← hY0]; exact btr V1.out (bdrew1 _))
  have HLY := hid (row_on HL.out V2.out)
  have HIY := hid (row_on HI.out V2.out)
  have HBY := hid (row_on HBW'.out V2.out)
  have HS := hid (show ∀ U : World, U.heap[R]? = Y0.heap[R]? → U.heap[R + 1]? = Y0.heap[R + 1]? → U.cell? ⟨R, 0, none⟩ = some (.pointer (some ⟨B, k, none⟩)) ∧ U.cell? ⟨(R + 1), 0, none⟩ = some (.int .u64 x.id) ∧ U.cell? ⟨(R + 1), 1, none⟩ = some (.int .u32 x.mb) ∧ U.cell? ⟨(R + 1), 2, none⟩ = some (.int .i64 x.sd) ∧ U.cell? ⟨(R + 1), 3, none⟩ = some (.int .i64 x.ty) ∧ U.cell? ⟨(R + 1), 4, none⟩ = some (.int .i64 x.pr) ∧ U.cell? ⟨(R + 1), 5, none⟩ = some (.int .u64 x.qt) from fun U e1 e2 => by
    have r1 := e1.trans HLY.out
    obtain ⟨y0, y1, y2, y3, y4, y5⟩ := row6 (e2.trans HIY.out)
    exact ⟨row_cell r1 0, y0, y1, y2, y3, y4, y5⟩)
  have HBK := hid (show ∀ U, Below Y0.heap.size Y0 U → U.cell? ⟨B, k, none⟩ = some (.slice p n c) from fun U hU => by rw [row_cell (row_on HBY.out hU), HKR.out, HNN.out])
  refine wp_region_held_drew (S := (fun U => U.cell? ⟨R, 0, none⟩ = some (.pointer (some ⟨B, k, none⟩)) ∧ U.cell? ⟨(R + 1), 0, none⟩ = some (.int .u64 x.id) ∧ U.cell? ⟨(R + 1), 1, none⟩ = some (.int .u32 x.mb) ∧ U.cell? ⟨(R + 1), 2, none⟩ = some (.int .i64 x.sd) ∧ U.cell? ⟨(R + 1), 3, none⟩ = some (.int .i64 x.ty) ∧ U.cell? ⟨(R + 1), 4, none⟩ = some (.int .i64 x.pr) ∧ U.cell? ⟨(R + 1), 5, none⟩ = some (.int .u64 x.qt))) (by kernel_rfl) ?_ (fun hHeld => ?_)
  · (try dsimp only); rw [hY0]; exact HS.out Y0 rfl rfl
  rw [hY0] at hHeld ⊢
  clear hY0
  refine' wpAnyH_take (i := 0) (oi := _) (v := _) rfl (by kernel_rfl) (by kernel_rfl) (by kernel_rfl) (fun _ _ _ h => h) (Or.inl ⟨by kernel_rfl, ?_⟩) (by assumption) ?_
  rotate_left
  · (intro w hSw; (try dsimp only at hSw); go_simp; try (with_reducible rfl))
  try simp only [List.getElem_toArray, List.getElem_cons_succ, List.getElem_cons_zero, Act.put, List.setIfInBounds_toArray, List.set_cons_zero, List.set_cons_succ]
  refine' wpAnyH_take (i := 1) (oi := _) (v := _) rfl (by kernel_rfl) (by kernel_rfl) (by kernel_rfl) (fun _ _ _ h => h) (Or.inl ⟨by kernel_rfl, ?_⟩) (by assumption) ?_
  rotate_left
  · (intro w hSw; (try dsimp only at hSw); go_simp; try (with_reducible rfl))
  try simp only [List.getElem_toArray, List.getElem_cons_succ, List.getElem_cons_zero, Act.put, List.setIfInBounds_toArray, List.set_cons_zero, List.set_cons_succ]
  refine' wpAnyH_take (i := 2) (oi := _) (v := _) rfl (by kernel_rfl) (by kernel_rfl) (by kernel_rfl) (fun _ _ _ h => h) (Or.inl ⟨by kernel_rfl, ?_⟩) (by assumption) ?_
  rotate_left
  · (intro w hSw; (try dsimp only at hSw); go_simp; try (with_reducible rfl))
  try simp only [List.getElem_toArray, List.getElem_cons_succ, List.getElem_cons_zero, Act.put, List.setIfInBounds_toArray, List.set_cons_zero, List.set_cons_succ]
  refine' wpAnyH_take (i := 4) (oi := _) (v := _) rfl (by kernel_rfl) (by kernel_rfl) (by kernel_rfl) (fun _ _ _ h => h) (Or.inl ⟨by kernel_rfl, ?_⟩) (by assumption) ?_
  rotate_left
  · (intro w hSw; (try dsimp only at hSw); go_simp; try (with_reducible rfl))
  try simp only [List.getElem_toArray, List.getElem_cons_succ, List.getElem_cons_zero, Act.put, List.setIfInBounds_toArray, List.set_cons_zero, List.set_cons_succ]
  refine' wpAnyH_take (i := 5) (oi := _) (v := _) rfl (by kernel_rfl) (by kernel_rfl) (by kernel_rfl) (fun _ _ _ h => h) (Or.inl ⟨by kernel_rfl, ?_⟩) (by assumption) ?_
  rotate_left
  · (intro w hSw; (try dsimp only at hSw); go_simp; try (with_reducible rfl))
  try simp only [List.getElem_toArray, List.getElem_cons_succ, List.getElem_cons_zero, Act.put, List.setIfInBounds_toArray, List.set_cons_zero, List.set_cons_succ]
  refine wpAnyH_ready (rs := [3, 6]) (by kernel_rfl) (by simp) ?_
  refine (AllReadyH.cons (o := _) rfl (fun KK hK => ?_) (AllReadyH.cons (o := _) rfl (fun KK hK => ?_) AllReadyH.nil))
  focus
    have kb := HBK.out Y0 (Below.refl _ _)
    go_simp
    refine hK.out _ _ ?_ (fun hHeld => ?_)
    · (try dsimp only); exact HS.out Y0 rfl rfl
    clear hK kb
    try simp only [List.getElem_toArray, List.getElem_cons_succ, List.getElem_cons_zero, Act.put, List.setIfInBounds_toArray, List.set_cons_zero, List.set_cons_succ]
    refine wpAnyH_ready (rs := [6]) (by kernel_rfl) (by simp) ?_
    refine AllReadyH.cons (o := _) rfl (fun KK hK => ?_) AllReadyH.nil
    go_simp
    refine hK.out _ _ ?_ (fun hHeld => ?_)
    · (try dsimp only); exact HS.out _ ((ball Y0 _).block R (row_lt HLY.out)) ((ball Y0 _).block (R + 1) (row_lt HIY.out))
    clear hK
    try simp only [List.getElem_toArray, List.getElem_cons_succ, List.getElem_cons_zero, Act.put, List.setIfInBounds_toArray, List.set_cons_zero, List.set_cons_succ]
  rotate_left
  focus
    go_simp
    refine hK.out _ _ ?_ (fun hHeld => ?_)
    · (try dsimp only); exact HS.out _ ((ball Y0 _).block R (row_lt HLY.out)) ((ball Y0 _).block (R + 1) (row_lt HIY.out))
    clear hK
    try simp only [List.getElem_toArray, List.getElem_cons_succ, List.getElem_cons_zero, Act.put, List.setIfInBounds_toArray, List.set_cons_zero, List.set_cons_succ]
    refine wpAnyH_ready (rs := [3]) (by kernel_rfl) (by simp) ?_
    refine AllReadyH.cons (o := _) rfl (fun KK hK => ?_) AllReadyH.nil
    have kb := HBK.out _ (ball Y0 (.cells #[.int .u64 x.id, .int .u32 x.mb, .int .i64 x.sd, .int .i64 x.ty, .int .i64 x.pr, .int .u64 x.qt] 35))
    go_simp
    refine hK.out _ _ ?_ (fun hHeld => ?_)
    · (try dsimp only); exact HS.out _ ((ball Y0 _).block R (row_lt HLY.out)) ((ball Y0 _).block (R + 1) (row_lt HIY.out))
    clear hK kb
    try simp only [List.getElem_toArray, List.getElem_cons_succ, List.getElem_cons_zero, Act.put, List.setIfInBounds_toArray, List.set_cons_zero, List.set_cons_succ]
  all_goals (
    obtain ⟨X, hX⟩ : ∃ X, Y0.alloc (.cells #[.int .u64 x.id, .int .u32 x.mb, .int .i64 x.sd, .int .i64 x.ty, .int .i64 x.pr, .int .u64 x.qt] 35) = X := ⟨_, rfl⟩
    obtain ⟨vb, hvb⟩ : ∃ g, Y0.heap.size = g := ⟨_, rfl⟩
    have BX := hid (show Below Y0.heap.size Y0 X from by rw [← hX]; exact ball _ _)
    have HVX := hid (show X.heap[vb]? = some (.cells #[.int .u64 x.id, .int .u32 x.mb, .int .i64 x.sd, .int .i64 x.ty, .int .i64 x.pr, .int .u64 x.qt] 35 (0, 0)) from by rw [← hX, ← hvb]; exact World.alloc_heap_new _ _)
    have HVN := hid (show ¬ OfP p vb from fun e => by have := (HPB.out vb e).1; have := HBW.out.size; have := V2.out.size; omega)
    have HBX := hid (btr HBW.out (btr V2.out BX.out))
    rw [hX, hvb]
    rw [hX] at hHeld
    clear hX hvb
    refine wpAnyH_ready (rs := [7]) (by kernel_rfl) (by simp) ?_
    refine AllReadyH.cons (o := _) rfl (fun KK hK => ?_) AllReadyH.nil
    go_simp
    go_at_call 52
    refine (CIN.out vb X (HLi.out.on HBX.out) HVX.out HVN.out).mono ?_
    rintro e v3 ⟨p', c', rfl, h1, h2, h3⟩
    have HL3 := hid h1
    have HP3 := hid h2
    have HK3 := hid h3
    have nR : ¬ OfP p R := fun e => by have := (HPB.out R e).1; have := HRR.out; omega
    have nR1 : ¬ OfP p (R + 1) := fun e => by have := (HPB.out (R + 1) e).1; have := HRR.out; omega
    have nB : ¬ OfP p B := fun e => (HPB.out B e).2 rfl
    have eR := hid (show v3.heap[R]? = Y0.heap[R]? from (h3.obj R (Nat.lt_of_lt_of_le (row_lt HLY.out) BX.out.size) nR).trans (BX.out.block R (row_lt HLY.out)))
    have eI := hid (show v3.heap[R + 1]? = Y0.heap[R + 1]? from (h3.obj (R + 1) (Nat.lt_of_lt_of_le (row_lt HIY.out) BX.out.size) nR1).trans (BX.out.block (R + 1) (row_lt HIY.out)))
    have HB3 := hid (h3.row (row_on HBY.out BX.out) nB)
    clear h1 h2 h3 nR nR1 nB
    (try go_simp)
    refine hK.out _ _ ?_ (fun hHeld => ?_)
    · (try dsimp only); exact HS.out v3 eR.out eI.out
    clear hK
    try simp only [List.getElem_toArray, List.getElem_cons_succ, List.getElem_cons_zero, Act.put, List.setIfInBounds_toArray, List.set_cons_zero, List.set_cons_succ]
    refine' wpAnyH_take (i := 8) (oi := _) (v := _) rfl (by kernel_rfl) (by kernel_rfl) (by kernel_rfl) (fun _ _ _ h => h) (Or.inl ⟨by kernel_rfl, ?_⟩) (by assumption) ?_
    rotate_left
    · (intro w hSw; (try dsimp only at hSw); go_simp; try (with_reducible rfl))
    try simp only [List.getElem_toArray, List.getElem_cons_succ, List.getElem_cons_zero, Act.put, List.setIfInBounds_toArray, List.set_cons_zero, List.set_cons_succ]
    refine wpAnyH_ready (rs := [9]) (by kernel_rfl) (by simp) ?_
    refine AllReadyH.cons (o := _) rfl (fun KK hK => ?_) AllReadyH.nil
    have kc : v3.cell? ⟨B, k, none⟩ = some (.slice p n c) := by rw [row_cell HB3.out, HKR.out, HNN.out]
    have kf := row_frz HB3.out k
    go_simp
    have nBR := hid (show R ≠ B from by have := HRR.out; omega)
    have nBI := hid (show R + 1 ≠ B from by have := HRR.out; omega)
    refine hK.out _ _ ?_ (fun hHeld => ?_)
    · (try dsimp only); exact HS.out _ ((heap_setCell_other _ _ _ _ (by show R ≠ B; exact nBR.out)).trans eR.out) ((heap_setCell_other _ _ _ _ (by show R + 1 ≠ B; exact nBI.out)).trans eI.out)
    clear hK kc kf
    try simp only [List.getElem_toArray, List.getElem_cons_succ, List.getElem_cons_zero, Act.put, List.setIfInBounds_toArray, List.set_cons_zero, List.set_cons_succ]
    refine wpAnyH_done (by kernel_rfl) ?_ _
    clear hHeld
    (try go_wp2)
    go_end0
    have hli := HL3.out
    have hkk : Kp (fun b => b = B ∨ OfP p b) w (v3.setCell ⟨B, k, none⟩ (.slice p' ne c')) := ((Kp.of (fun b => b = B ∨ OfP p b) HBX.out).trans HK3.out (fun g _ h => .inr h)).trans (Kp.set _ _ _ _) (fun g _ h => .inl h)
    exact ⟨rfl, p', c', heap_setCell_same v3 B k row 74 _ HB3.out, li_set hli HB3.out (by decide), fun g hg => (HP3.out g hg).imp id (fun h => Nat.le_trans HBX.out.size h), hkk⟩)
end Go.Proofs.YtnmkfdndfhefiaaGreat
namespace Go.Proofs.YtnmkfdndfhefiaaGreat
open Go.RowKit Go.Deep Go.Shelf
set_option linter.unusedVariables false
set_option linter.unusedSimpArgs false
set_option maxHeartbeats 4000000
set_option maxRecDepth 100000
theorem enter_bad (B : Nat) (r m : Int) (p1 : Option Addr) (c1 : Nat) (b : List It) (p2 : Option Addr) (c2 : Nat) (s : List It) (x : It) (w : World) (h : Cl w B r m p1 c1 b p2 c2 s) (hr : rfi m b s x ≠ 0) :
    Calls Tryz.prog 11 #[.pointer (some ⟨B, 0, none⟩), .agg #[.int .u64 x.id, .int .u32 x.mb, .int .i64 x.sd, .int .i64 x.ty, .int .i64 x.pr, .int .u64 x.qt]] w fun e w' => e = .returned (.int .i64 (rfi m b s x)) ∧ Below w.heap.size w w' := by
  obtain ⟨R, hR⟩ : ∃ R, w.heap.size = R := ⟨_, rfl⟩
  obtain ⟨W, hW⟩ : ∃ W, w.alloc (.cells #[.int .u64 x.id, .int .u32 x.mb, .int .i64 x.sd, .int .i64 x.ty, .int .i64 x.pr, .int .u64 x.qt] 35) = W := ⟨_, rfl⟩
  have HBW := hid (show Below w.heap.size w W from by rw [← hW]; exact ball _ _)
  have HX := hid (show W.heap[R]? = some (.cells #[.int .u64 x.id, .int .u32 x.mb, .int .i64 x.sd, .int .i64 x.ty, .int .i64 x.pr, .int .u64 x.qt] 35 (0, 0)) from by rw [← hW, ← hR]; exact World.alloc_heap_new _ _)
  have CR := hid (refusal_any B r m p1 c1 b p2 c2 s x W (h.on HBW.out))
  obtain ⟨v, hv⟩ : ∃ v, rfi m b s x = v := ⟨_, rfl⟩
  rw [hv] at CR hr ⊢
  have t1 : (v != 0) = true := by simpa using hr
  obtain ⟨x0, x1, x2, x3, x4, x5⟩ := row6 HX.out
  have HW := hid hW
  have HRR := hid hR
  clear h hW hR hv hr
  go_enter Tryz.func11, Tryz.ntmps11
  go_upto_region 1 with fail
  rw [HW.out, HRR.out]
  go_wp2_with (go_at_call 29; with_reducible refine (CR.out).mono ?_; rintro e w1 ⟨rfl, hb⟩; have V1 := hid hb; clear hb)
  go_ret
  exact ⟨rfl, btr HBW.out V1.out⟩
theorem rfi_ok {m : Int} {b s : List It} {x : It} (h : rfi m b s x = 0) : ck x = 0 ∧ x.id ≠ 0 ∧ hsi x.id b = false ∧ hsi x.id s = false ∧ (b.length : Int) + s.length < m := by
  unfold rfi at h
  split at h
  · rename_i h1; exact absurd h h1
  · rename_i h1
    split at h
    · omega
    · rename_i h2
      split at h
      · omega
      · rename_i h3
        have h4 : ¬ (hsi x.id b || hsi x.id s) = true := fun e => h2 (.inr e)
        simp only [Bool.or_eq_true, not_or, Bool.not_eq_true] at h4
        exact ⟨Decidable.not_not.1 h1, fun e => h2 (.inl e), h4.1, h4.2, by omega⟩
theorem of1' (B : Nat) (s : Int) (hs : s = 1) (w : World) : Calls Tryz.prog 30 #[.pointer (some ⟨B, 0, none⟩), .int .i64 s] w fun e w' => e = .returned (.pointer (some ⟨B, 2, none⟩)) ∧ w = w' := by
  subst hs
  exact (of1 B w).mono (fun e w' h => ⟨h.1, h.2.symm⟩)
theorem of2' (B : Nat) (s : Int) (hs : s = 2) (w : World) : Calls Tryz.prog 30 #[.pointer (some ⟨B, 0, none⟩), .int .i64 s] w fun e w' => e = .returned (.pointer (some ⟨B, 3, none⟩)) ∧ w = w' := by
  subst hs
  exact (of2 B w).mono (fun e w' h => ⟨h.1, h.2.symm⟩)
theorem enter_buy (B : Nat) (r m : Int) (p1 : Option Addr) (c1 : Nat) (b : List It) (p2 : Option Addr) (c2 : Nat) (s : List It) (x : It) (w : World) (h : Cl w B r m p1 c1 b p2 c2 s) (hr : rfi m b s x = 0) (hs : x.sd = 1) :
    Calls Tryz.prog 11 #[.pointer (some ⟨B, 0, none⟩), .agg #[.int .u64 x.id, .int .u32 x.mb, .int .i64 x.sd, .int .i64 x.ty, .int .i64 x.pr, .int .u64 x.qt]] w fun e w' => e = .returned (.int .i64 0) ∧ ∃ p' c', Cl w' B r m p' c' (ent x b) p2 c2 s ∧ (∀ g, OfP p' g → OfP p1 g ∨ w.heap.size ≤ g) ∧ Kp (fun j => j = B ∨ OfP p1 j) w w' := by
  obtain ⟨R, hR⟩ : ∃ R, w.heap.size = R := ⟨_, rfl⟩
  obtain ⟨W, hW⟩ : ∃ W, w.alloc (.cells #[.int .u64 x.id, .int .u32 x.mb, .int .i64 x.sd, .int .i64 x.ty, .int .i64 x.pr, .int .u64 x.qt] 35) = W := ⟨_, rfl⟩
  have HBW := hid (show Below w.heap.size w W from by rw [← hW]; exact ball _ _)
  have HX := hid (show W.heap[R]? = some (.cells #[.int .u64 x.id, .int .u32 x.mb, .int .i64 x.sd, .int .i64 x.ty, .int .i64 x.pr, .int .u64 x.qt] 35 (0, 0)) from by rw [← hW, ← hR]; exact World.alloc_heap_new _ _)
  have CR := hid (refusal_any B r m p1 c1 b p2 c2 s x W (h.on HBW.out))
  obtain ⟨hck, hid0, hh1, hh2, hlen⟩ := rfi_ok hr
  rw [hr] at CR
  have hik : Ik 1 x := by have := (ck_ok hck).1; rw [hs] at this; exact this
  have O := hid (fun U => of1' B x.sd hs U)
  have hm1 := h.m1
  have CL := hid (fun U (hU : Below W.heap.size W U) => lenter_any B 2 1 _ x p1 c1 b U (h.on (btr HBW.out hU)).row rfl (h.on (btr HBW.out hU)).l1 h.s1 hik (by omega))
  have HC := hid h
  have HLEN := hid hlen
  have HIK := hid hik
  have HXS := hid (show ∀ U, Below W.heap.size W U → U.cell? ⟨R, 0, none⟩ = some (.int .u64 x.id) ∧ U.cell? ⟨R, 1, none⟩ = some (.int .u32 x.mb) ∧ U.cell? ⟨R, 2, none⟩ = some (.int .i64 x.sd) ∧ U.cell? ⟨R, 3, none⟩ = some (.int .i64 x.ty) ∧ U.cell? ⟨R, 4, none⟩ = some (.int .i64 x.pr) ∧ U.cell? ⟨R, 5, none⟩ = some (.int .u64 x.qt) from fun U hU => row6 (row_on HX.out hU))
  have HPR := hid (show ∀ g, OfP p1 g → g < w.heap.size from fun g hg => by obtain ⟨cu, hc⟩ := h.l1.ty hg; exact row_lt hc)
  have sB := row_lt h.row
  obtain ⟨x0, x1, x2, x3, x4, x5⟩ := row6 HX.out
  have HW := hid hW
  have HRR := hid hR
  clear h hW hR hr hs hck hid0 hh1 hh2 hlen hik
  go_enter Tryz.func11, Tryz.ntmps11
  go_upto_region 1 with fail
  rw [HW.out, HRR.out]
  go_upto_region 4 with (go_at_call 29; with_reducible refine (CR.out).mono ?_; rintro e w1 ⟨rfl, hb⟩; have V1 := hid hb; clear hb)
  clear x0 x1 x2 x3 x4 x5
  obtain ⟨x0, x1, x2, x3, x4, x5⟩ := HXS.out w1 V1.out
  go_region_held3 (fun U => U.cell? ⟨R, 0, none⟩ = some (.int .u64 x.id) ∧ U.cell? ⟨R, 1, none⟩ = some (.int .u32 x.mb) ∧ U.cell? ⟨R, 2, none⟩ = some (.int .i64 x.sd) ∧ U.cell? ⟨R, 3, none⟩ = some (.int .i64 x.ty) ∧ U.cell? ⟨R, 4, none⟩ = some (.int .i64 x.pr) ∧ U.cell? ⟨R, 5, none⟩ = some (.int .u64 x.qt)) (go_keep) (first | (go_at_call 30; with_reducible refine (O.out _).mono ?_; rintro e w2 ⟨rfl, rfl⟩) | (go_at_call 31; with_reducible refine (CL.out _ (btr V1.out (bdrew1 w1))).mono ?_; rintro e w3 ⟨rfl, p', c', h1, h2, h3, h4⟩; have H1 := hid h1; have H2 := hid h2; have H3 := hid h3; have H4 := hid h4; obtain ⟨x0, x1, x2, x3, x4, x5⟩ := row6 (h4.row (row_on HX.out (btr V1.out (bdrew1 w1))) (fun e => e.elim (fun e => by have := HRR.out; omega) (fun e => by have := HPR.out R e; have := HRR.out; omega))); clear h1 h2 h3 h4))
  go_wp2
  go_ret
  have hb2 : Below w.heap.size w w1.drew := btr HBW.out (btr V1.out (bdrew1 w1))
  have hc := HC.out.on hb2
  have hli : (ent x b).length = b.length + 1 := ins_len (bh_le _ _)
  have hle := HLEN.out
  have hkp := (Kp.of (fun j => j = B ∨ OfP p1 j) hb2).trans H4.out (fun _ _ h => h)
  refine ⟨rfl, p', c', ⟨H1.out, H2.out, hc.l2.kept H4.out (fun g hg e => e.elim (fun e => by obtain ⟨cu, hcu⟩ := hc.l2.ty hg; exact row_ne hcu hc.row (by decide) e) (fun e => hc.ap g e hg)), hc.s1.ent HIK.out (by have := hc.m1; omega), hc.s2, ?_, hc.r0, hc.r1, hc.m0, hc.m1, ?_⟩, fun g hg => (H3.out g hg).imp id (fun h => Nat.le_trans hb2.size h), hkp⟩
  · intro g hg hg2
    rcases H3.out g hg with h | h
    · exact hc.ap g h hg2
    · obtain ⟨cu, hcu⟩ := hc.l2.ty hg2
      have := row_lt hcu
      omega
  · rw [hli]
    omega
theorem enter_sell (B : Nat) (r m : Int) (p1 : Option Addr) (c1 : Nat) (b : List It) (p2 : Option Addr) (c2 : Nat) (s : List It) (x : It) (w : World) (h : Cl w B r m p1 c1 b p2 c2 s) (hr : rfi m b s x = 0) (hs : x.sd = 2) :
    Calls Tryz.prog 11 #[.pointer (some ⟨B, 0, none⟩), .agg #[.int .u64 x.id, .int .u32 x.mb, .int .i64 x.sd, .int .i64 x.ty, .int .i64 x.pr, .int .u64 x.qt]] w fun e w' => e = .returned (.int .i64 0) ∧ ∃ p' c', Cl w' B r m p1 c1 b p' c' (ent x s) ∧ (∀ g, OfP p' g → OfP p2 g ∨ w.heap.size ≤ g) ∧ Kp (fun j => j = B ∨ OfP p2 j) w w' := by
  obtain ⟨R, hR⟩ : ∃ R, w.heap.size = R := ⟨_, rfl⟩
  obtain ⟨W, hW⟩ : ∃ W, w.alloc (.cells #[.int .u64 x.id, .int .u32 x.mb, .int .i64 x.sd, .int .i64 x.ty, .int .i64 x.pr, .int .u64 x.qt] 35) = W := ⟨_, rfl⟩
  have HBW := hid (show Below w.heap.size w W from by rw [← hW]; exact ball _ _)
  have HX := hid (show W.heap[R]? = some (.cells #[.int .u64 x.id, .int .u32 x.mb, .int .i64 x.sd, .int .i64 x.ty, .int .i64 x.pr, .int .u64 x.qt] 35 (0, 0)) from by rw [← hW, ← hR]; exact World.alloc_heap_new _ _)
  have CR := hid (refusal_any B r m p1 c1 b p2 c2 s x W (h.on HBW.out))
  obtain ⟨hck, hid0, hh1, hh2, hlen⟩ := rfi_ok hr
  rw [hr] at CR
  have hik : Ik 2 x := by have := (ck_ok hck).1; rw [hs] at this; exact this
  have O := hid (fun U => of2' B x.sd hs U)
  have hm1 := h.m1
  have CL := hid (fun U (hU : Below W.heap.size W U) => lenter_any B 3 2 _ x p2 c2 s U (h.on (btr HBW.out hU)).row rfl (h.on (btr HBW.out hU)).l2 h.s2 hik (by omega))
  have HC := hid h
  have HLEN := hid hlen
  have HIK := hid hik
  have HXS := hid (show ∀ U, Below W.heap.size W U → U.cell? ⟨R, 0, none⟩ = some (.int .u64 x.id) ∧ U.cell? ⟨R, 1, none⟩ = some (.int .u32 x.mb) ∧ U.cell? ⟨R, 2, none⟩ = some (.int .i64 x.sd) ∧ U.cell? ⟨R, 3, none⟩ = some (.int .i64 x.ty) ∧ U.cell? ⟨R, 4, none⟩ = some (.int .i64 x.pr) ∧ U.cell? ⟨R, 5, none⟩ = some (.int .u64 x.qt) from fun U hU => row6 (row_on HX.out hU))
  have HPR := hid (show ∀ g, OfP p2 g → g < w.heap.size from fun g hg => by obtain ⟨cu, hc⟩ := h.l2.ty hg; exact row_lt hc)
  have sB := row_lt h.row
  obtain ⟨x0, x1, x2, x3, x4, x5⟩ := row6 HX.out
  have HW := hid hW
  have HRR := hid hR
  clear h hW hR hr hs hck hid0 hh1 hh2 hlen hik
  go_enter Tryz.func11, Tryz.ntmps11
  go_upto_region 1 with fail
  rw [HW.out, HRR.out]
  go_upto_region 4 with (go_at_call 29; with_reducible refine (CR.out).mono ?_; rintro e w1 ⟨rfl, hb⟩; have V1 := hid hb; clear hb)
  clear x0 x1 x2 x3 x4 x5
  obtain ⟨x0, x1, x2, x3, x4, x5⟩ := HXS.out w1 V1.out
  go_region_held3 (fun U => U.cell? ⟨R, 0, none⟩ = some (.int .u64 x.id) ∧ U.cell? ⟨R, 1, none⟩ = some (.int .u32 x.mb) ∧ U.cell? ⟨R, 2, none⟩ = some (.int .i64 x.sd) ∧ U.cell? ⟨R, 3, none⟩ = some (.int .i64 x.ty) ∧ U.cell? ⟨R, 4, none⟩ = some (.int .i64 x.pr) ∧ U.cell? ⟨R, 5, none⟩ = some (.int .u64 x.qt)) (go_keep) (first | (go_at_call 30; with_reducible refine (O.out _).mono ?_; rintro e w2 ⟨rfl, rfl⟩) | (go_at_call 31; with_reducible refine (CL.out _ (btr V1.out (bdrew1 w1))).mono ?_; rintro e w3 ⟨rfl, p', c', h1, h2, h3, h4⟩; have H1 := hid h1; have H2 := hid h2; have H3 := hid h3; have H4 := hid h4; obtain ⟨x0, x1, x2, x3, x4, x5⟩ := row6 (h4.row (row_on HX.out (btr V1.out (bdrew1 w1))) (fun e => e.elim (fun e => by have := HRR.out; omega) (fun e => by have := HPR.out R e; have := HRR.out; omega))); clear h1 h2 h3 h4))
  go_wp2
  go_ret
  have hb2 : Below w.heap.size w w1.drew := btr HBW.out (btr V1.out (bdrew1 w1))
  have hc := HC.out.on hb2
  have hli : (ent x s).length = s.length + 1 := ins_len (bh_le _ _)
  have hle := HLEN.out
  have hkp := (Kp.of (fun j => j = B ∨ OfP p2 j) hb2).trans H4.out (fun _ _ h => h)
  refine ⟨rfl, p', c', ⟨H1.out, hc.l1.kept H4.out (fun g hg e => e.elim (fun e => by obtain ⟨cu, hcu⟩ := hc.l1.ty hg; exact row_ne hcu hc.row (by decide) e) (fun e => hc.ap g hg e)), H2.out, hc.s1, hc.s2.ent HIK.out (by have := hc.m1; omega), ?_, hc.r0, hc.r1, hc.m0, hc.m1, ?_⟩, fun g hg => (H3.out g hg).imp id (fun h => Nat.le_trans hb2.size h), hkp⟩
  · intro g hg hg2
    rcases H3.out g hg2 with h | h
    · exact hc.ap g hg h
    · obtain ⟨cu, hcu⟩ := hc.l1.ty hg
      have := row_lt hcu
      omega
  · rw [hli]
    omega
end Go.Proofs.YtnmkfdndfhefiaaGreat
