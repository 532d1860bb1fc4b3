/-
  An interest is put into a list.
-/
import Derived.Test.YtknikhoobhgidaaAuO
import Derived.Deep.RegionLaw
import Derived.Lib.AppendZerosOnto
import Derived.Lib.Overlaps
import Derived.Laws.Externs
import Derived.Laws.CopyRow
import Derived.Deep.AppendSrc
import Derived.Laws.NewBlocks
namespace Go.Proofs.Ytknikhoobhgidaa
open Go.RowKit Go.Deep Go.Shelf
set_option linter.unusedVariables false
set_option linter.unusedSimpArgs false
set_option maxHeartbeats 4000000
set_option maxRecDepth 100000
section
variable {P : Program}
/-- rows are copied. -/
theorem run_copy_rows (w : World) (dT sT ty elem : TypeId) (g o dLen dCap : Nat) (a : Addr) (sLen sCap : Nat) (cur : Array Value) (t : TypeId) (cs : List Value) (sz : Nat)
    (hu : P.underlying dT = some (.slice elem)) (hs : (P.info? elem).map (·.size) = some sz)
    (hg : w.heap[g]? = some (.cells cur t (0, 0))) (hn : cs.length = Nat.min sLen dLen * sz)
    (hsrc : ∀ j v, cs[j]? = some v → w.cell? (a.add j) = some v) (hfit : o + cs.length ≤ cur.size) (h1 : ∀ v ∈ cs, v.oneCell' = true) :
    (Builtin.copy_ #[dT, sT] ty #[.slice (some ⟨g, o, none⟩) dLen dCap, .slice (some a) sLen sCap]).run P w =
      .ok (goInt (Nat.min sLen dLen)) (w.setRow g (cur.toList.take o ++ cs ++ cur.toList.drop (o + cs.length)).toArray) := by
  have hl := run_firstCells_some (P := P) w sz (Nat.min sLen dLen) a sLen sCap cs hn hsrc
  have hst := run_storeCells_at P g o t cs 0 cur w hg (by simpa using hfit) h1
  cases hq : P.info? elem with
  | none => simp [hq] at hs
  | some i =>
    have hi : i.size = sz := by simpa [hq] using hs
    simp [Builtin.copy_, run_underlying hu, Builtin.lenOf, sizeOf, typeInfo, hq, hi, hl, hst]
theorem run_append_tx (w : World) (t tx ty e e' : TypeId) (ht : P.underlying t = some (.slice e)) (hx : P.underlying tx = some (.slice e')) (sb : Option Addr) (sn sc : Nat) (a : Option Addr) (m c : Nat) :
    (Builtin.append_ #[t, tx] ty #[.slice sb sn sc, .slice a m c]).run P w = (Builtin.append_ #[t, t] ty #[.slice sb sn sc, .slice a m c]).run P w := by
  simp only [Builtin.append_, run_underlying ht, run_underlying hx, Sem.run_bind, Result.andThen_ok, List.getElem?_toArray, List.getElem?_cons_zero, List.getElem?_cons_succ]
/-- a copy whose run is known, in a region that draws its order. -/
theorem step_copy_known {ops : Array Oper} {o : Oper} {a : Act} {w : World} {K : Act → World → Prop} {Q : Exit → Act → World → Prop} {E : Prop} (hg : o.guard = none) (d x : Operand) (dT sT : TypeId)
    (ho : o.op = .call { callee := .builtin .copy, args := #[d, x], argTypes := #[dT, sT] }) (v u : Value) (hd : a.eval d = v) (hx : a.eval x = u) {v' : Value} {w' : World} (hr : (Builtin.copy_ #[dT, sT] o.type #[v, u]).run P w = .ok v' w') (hK : K (a.put o.dst v') w') :
    if Region.wanted o (yielded ops a.tmps) = true then Oper.wp P o a w K Q else E := by
  rw [if_pos (by simp [Region.wanted, hg])]
  unfold Oper.wp
  simp [execOp, ho, resolve, invoke, builtin, hd, hx, hr, Result.andThen]
  exact hK
end
theorem its_ins (i : Nat) (x : It) (l : List It) : its (ins i x l) = (its l).take (i * 6) ++ ((irow x).toList ++ (its l).drop (i * 6)) := by
  rw [its_take, its_drop]
  unfold ins
  rw [its_app]
  rfl
theorem irow_size (x : It) : (irow x).size = 6 := rfl
theorem irow_len (x : It) : (irow x).toList.length = 6 := rfl
theorem li_mk {w : World} {g c : Nat} {cur : Array Value} {l : List It} (hr : w.heap[g]? = some (.cells cur 36 (0, 0))) (hn : l.length ≤ c) (hc : c ≤ maxLen) (hs : cur.size = c * 6) (ht : cur.toList.take (l.length * 6) = its l) : Li w (some ⟨g, 0, none⟩) c l :=
  ⟨its_len l, .inr ⟨g, c, cur, rfl, Nat.zero_le _, hr, hn, hc, hs, ht⟩⟩
theorem sizeIt : (Try.prog.info? 36).map (·.size) = some 6 := by kernel_rfl
theorem shiftL {A P V : List Value} {a n : Nat} (hP : P.length = n) (hi : a ≤ n) (hA : A.take n = P) (hl : n + V.length ≤ A.length) :
    (((A.take (a + V.length) ++ P.drop a ++ A.drop (a + V.length + (P.drop a).length)).take a ++ V ++ (A.take (a + V.length) ++ P.drop a ++ A.drop (a + V.length + (P.drop a).length)).drop (a + V.length))).take (n + V.length) = P.take a ++ (V ++ P.drop a) := by
  have e0 : (A.take (a + V.length)).length = a + V.length := by rw [List.length_take]; omega
  have e1 : (A.take (a + V.length) ++ P.drop a ++ A.drop (a + V.length + (P.drop a).length)).take a = P.take a := by
    rw [List.append_assoc, List.take_append_of_le_length (by omega), List.take_take, ← hA, List.take_take]
    congr 1; omega
  have e2 : (A.take (a + V.length) ++ P.drop a ++ A.drop (a + V.length + (P.drop a).length)).drop (a + V.length) = P.drop a ++ A.drop (a + V.length + (P.drop a).length) := by
    rw [List.append_assoc, List.drop_append_of_le_length (by omega), List.drop_of_length_le (by omega), List.nil_append]
  rw [e1, e2]
  have e3 : P.take a ++ V ++ (P.drop a ++ A.drop (a + V.length + (P.drop a).length)) = (P.take a ++ (V ++ P.drop a)) ++ A.drop (a + V.length + (P.drop a).length) := by simp
  rw [e3, List.take_append_of_le_length (by simp; omega), List.take_of_length_le (by simp; omega)]
theorem spliceL {A B P V : List Value} {a n : Nat} (hP : P.length = n) (hi : a ≤ n) (hB : n + V.length - a ≤ B.length) (hA : A = P.take a ++ B) :
    (((A.take a ++ V ++ A.drop (a + V.length)).take (a + V.length) ++ P.drop a ++ (A.take a ++ V ++ A.drop (a + V.length)).drop (a + V.length + (P.drop a).length))).take (n + V.length) = P.take a ++ (V ++ P.drop a) := by
  have e0 : (P.take a).length = a := by rw [List.length_take]; omega
  have e1 : A.take a = P.take a := by rw [hA, List.take_append_of_le_length (by omega), List.take_of_length_le (by omega)]
  have e2 : (A.take a ++ V ++ A.drop (a + V.length)).take (a + V.length) = P.take a ++ V := by
    rw [e1, List.take_append_of_le_length (by simp; omega), List.take_of_length_le (by simp; omega)]
  rw [e2, List.take_append_of_le_length (by simp; omega), List.take_of_length_le (by simp; omega)]
  simp
theorem apart (vb g o lb cb : Nat) (cur vc : Array Value) (w : World) (hv : w.heap[vb]? = some (.cells vc 36 (0, 0))) (hg : w.heap[g]? = some (.cells cur 36 (0, 0))) (hne : vb ≠ g) (hc : cur.size ≠ 0) :
    (callFunc 75 #[.slice (some ⟨vb, 0, none⟩) 1 1, .slice (some ⟨g, o, none⟩) lb cb]).run Try.prog w = .ok (.value (.bool false)) w := by
  have h1 : w.shape? vb = some (36, vc.size) := by simp [World.shape?, hv]
  have h2 : w.shape? g = some (36, cur.size) := by simp [World.shape?, hg]
  rw [run_callFunc_extern Try.func75 (by kernel_rfl) (by kernel_rfl) (by kernel_rfl) (e := Extern.SlicesOverlaps.overlaps #[22, 22] #[4]) (by kernel_rfl),
    Lib.run_overlaps_apart w 22 4 36 Try.underlying22 6 Try.sizeOf36 ⟨vb, 0, none⟩ ⟨g, o, none⟩ 1 1 lb cb hne 36 36 vc.size cur.size h1 h2 hc (row_frz hv 0) (row_frz hv _)]
  rfl
theorem get_its {w : World} {g : Nat} {cur : Array Value} {l : List It} (hr : w.heap[g]? = some (.cells cur 36 (0, 0))) (ht : cur.toList.take (l.length * 6) = its l) {j : Nat} {v : Value} (hj : (its l)[j]? = some v) : w.cell? ⟨g, j, none⟩ = some v := by
  have hl : j < l.length * 6 := by rw [← its_len]; exact (List.getElem?_eq_some_iff.1 hj).1
  have := congrArg (fun z => z[j]?) ht
  simp only [List.getElem?_take, hl, if_true, Array.getElem?_toList] at this
  rw [row_cell hr, this, hj]
theorem get_row {w : World} {g : Nat} {x : It} (hr : w.heap[g]? = some (.cells #[.int .u64 x.id, .int .u32 x.mb, .int .i64 x.sd, .int .i64 x.ty, .int .i64 x.pr, .int .u64 x.qt] 36 (0, 0))) {j : Nat} {v : Value} (hj : (irow x).toList[j]? = some v) : w.cell? ((⟨g, 0, none⟩ : Addr).add j) = some v := by
  rw [Addr.add_lit, Nat.zero_add, row_cell hr]
  show (irow x)[j]? = some v
  rw [← Array.getElem?_toList]
  exact hj
/-- there is room, ahead of others. -/
theorem insert_shift (g c : Nat) (l : List It) (i : Nat) (x : It) (vb : Nat) (w : World) (h : Li w (some ⟨g, 0, none⟩) c l) (hi : i < l.length) (hroom : l.length + 1 ≤ c) (hn : l.length ≤ 4096) (hv : w.heap[vb]? = some (.cells #[.int .u64 x.id, .int .u32 x.mb, .int .i64 x.sd, .int .i64 x.ty, .int .i64 x.pr, .int .u64 x.qt] 36 (0, 0))) (hne : vb ≠ g) :
    Calls Try.prog 58 #[.slice (some ⟨g, 0, none⟩) l.length c, .int .i64 i, .slice (some ⟨vb, 0, none⟩) 1 1] w fun e w' => e = .returned (.slice (some ⟨g, 0, none⟩) (ins i x l).length c) ∧ Li w' (some ⟨g, 0, none⟩) c (ins i x l) ∧ Kp (fun b => b = g) w w' := by
  obtain ⟨g', cur, hp, hr, hcs, hlc, hcm, ht⟩ := h.some (by omega)
  obtain rfl : g = g' := by injection hp with hp; injection hp
  unfold maxLen at hcm
  have hcz : cur.size ≠ 0 := by omega
  have hov : ∀ o lb cb, (callFunc 75 #[.slice (some ⟨vb, 0, none⟩) 1 1, .slice (some ⟨g, o, none⟩) lb cb]).run Try.prog w = .ok (.value (.bool false)) w := fun o lb cb => apart vb g o lb cb cur _ w hv hr hne hcz
  obtain ⟨n, hnn⟩ : ∃ n, l.length = n := ⟨_, rfl⟩
  have HNN := hid hnn
  have hpl := its_len l
  rw [hnn] at hpl ht hi hroom hn hlc ⊢
  have hdl : ((its l).drop (i * 6)).length = (n - i) * 6 := by rw [List.length_drop, hpl]; omega
  obtain ⟨R1, hR1⟩ : ∃ R1, (cur.toList.take ((i + 1) * 6) ++ (its l).drop (i * 6) ++ cur.toList.drop ((i + 1) * 6 + ((its l).drop (i * 6)).length)).toArray = R1 := ⟨_, rfl⟩
  have hs1 : R1.size = c * 6 := by rw [← hR1]; simp [hdl]; omega
  have hcp1 : ∀ ty dc sc, (Builtin.copy_ #[65, 65] ty #[.slice (some ⟨g, (i + 1) * 6, none⟩) (n + 1 - (i + 1)) dc, .slice (some ⟨g, i * 6, none⟩) (n + 1 - i) sc]).run Try.prog w.drew = .ok (goInt (Nat.min (n + 1 - i) (n + 1 - (i + 1)))) (w.drew.setRow g R1) := fun ty dc sc => by
    rw [← hR1]
    refine run_copy_rows w.drew 65 65 ty 36 g ((i + 1) * 6) (n + 1 - (i + 1)) dc ⟨g, i * 6, none⟩ (n + 1 - i) sc cur 36 ((its l).drop (i * 6)) 6 Try.underlying65 sizeIt hr (by rw [hdl]; simp only [Nat.min_def]; split <;> omega) (fun j v hj => ?_) (by rw [hdl]; omega) (fun v hv => its_one l v (List.mem_of_mem_drop hv))
    rw [Addr.add_lit]
    rw [List.getElem?_drop] at hj
    exact get_its hr (by rw [hnn]; exact ht) hj
  have hg1 : (w.drew.setRow g R1).heap[g]? = some (.cells R1 36 (0, 0)) := setRow_heap w.drew g cur R1 36 (0, 0) hr
  have hv1 : (w.drew.setRow g R1).heap[vb]? = some (.cells #[.int .u64 x.id, .int .u32 x.mb, .int .i64 x.sd, .int .i64 x.ty, .int .i64 x.pr, .int .u64 x.qt] 36 (0, 0)) := by rw [setRow_other w.drew g vb R1 hne]; exact hv
  obtain ⟨R2, hR2⟩ : ∃ R2, (R1.toList.take (i * 6) ++ (irow x).toList ++ R1.toList.drop (i * 6 + (irow x).toList.length)).toArray = R2 := ⟨_, rfl⟩
  have hcp2 : ∀ ty dc, (Builtin.copy_ #[65, 22] ty #[.slice (some ⟨g, i * 6, none⟩) (n + 1 - i) dc, .slice (some ⟨vb, 0, none⟩) 1 1]).run Try.prog (w.drew.setRow g R1) = .ok (goInt (Nat.min 1 (n + 1 - i))) ((w.drew.setRow g R1).setRow g R2) := fun ty dc => by
    rw [← hR2]
    exact run_copy_rows (w.drew.setRow g R1) 65 22 ty 36 g (i * 6) (n + 1 - i) dc ⟨vb, 0, none⟩ 1 1 R1 36 (irow x).toList 6 Try.underlying65 sizeIt hg1 (by rw [irow_len]; simp only [Nat.min_def]; split <;> omega) (fun j v hj => get_row hv1 hj) (by rw [irow_len]; omega) (irow_one x)
  rw [setRow_setRow] at hcp2
  have hil : (ins i x l).length = n + 1 := by rw [ins_len (by omega), hnn]
  have HFIN := hid (show Li (w.drew.setRow g R2) (some ⟨g, 0, none⟩) c (ins i x l) from by
    have e2 : (w.drew.setRow g R2).heap[g]? = some (.cells R2 36 (0, 0)) := setRow_heap w.drew g cur R2 36 (0, 0) hr
    refine li_mk e2 (by rw [hil]; exact hroom) (by unfold maxLen; exact hcm) ?_ ?_
    · rw [← hR2]
      simp [irow_size, irow_len, hs1]
      omega
    · rw [hil, its_ins, ← hR2, ← hR1]
      have := shiftL (A := cur.toList) (P := its l) (V := (irow x).toList) (a := i * 6) (n := n * 6) hpl (by omega) ht (by simp [irow_size, irow_len, hcs]; omega)
      rw [irow_len, show i * 6 + 6 = (i + 1) * 6 by omega, show n * 6 + 6 = (n + 1) * 6 by omega] at this
      rw [irow_len, show i * 6 + 6 = (i + 1) * 6 by omega]
      exact this)
  have HIL := hid hil
  have w1 : IntKind.i64.wrap ((i : Int) + 1) = (i : Int) + 1 := by rw [IntKind.wrap_i64]; omega
  have b1 : (0 : Int) ≤ (i : Int) + 1 := by omega
  have t1 : ((i : Int) + 1).toNat = i + 1 := by omega
  have z3 : ((i : Int) == (n : Int)) = false := by
    have : ¬ (i : Int) = (n : Int) := by omega
    simpa using this
  have z4 : ¬ ((c : Int) < (n : Int) + 1) := by omega
  have z5 : decide ((c : Int) < (n : Int) + 1) = false := by simpa using z4
  have b2 : ¬ (c = i + 1) := by omega
  have b3 : ¬ (c = i) := by omega
  have b4 : (i : Int) ≤ (n : Int) + 1 := by omega
  have b5 : i ≤ n := by omega
  clear hR1 hR2 hg1 hv1 ht h hr hv hdl z4 hnn hpl hs1 hil
  go_enter Try.func58, Try.ntmps58
  go_wp2_with (simp only [hov])
  go_region_law (refine step_copy_known (by rfl) (.tmp 73) (.tmp 76) 65 65 (by rfl) (.slice (some ⟨g, (i + 1) * 6, none⟩) (n + 1 - (i + 1)) (c - (i + 1))) (.slice (some ⟨g, i * 6, none⟩) (n + 1 - i) (c - i)) (by simp [Act.eval, Act.put]) (by simp [Act.eval, Act.put]) (hcp1 _ _ _) ?_)
  go_wp2
  go_ret
  exact ⟨by rw [HIL.out]; rfl, HFIN.out, (Kp.of _ (bdrew1 w)).trans (setRow_kp _ _ _) (fun _ _ h => h)⟩
end Go.Proofs.Ytknikhoobhgidaa
