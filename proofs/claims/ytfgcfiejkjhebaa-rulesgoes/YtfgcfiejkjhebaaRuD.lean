/-
  An order is put into a list.
-/
import Derived.Test.YtfgcfiejkjhebaaGb
import Derived.Deep.RegionLaw
import Derived.Lib.AppendZerosOnto
import Derived.Lib.Overlaps
import Derived.Laws.Externs
import Derived.Laws.CopyOwn
import Derived.Deep.AppendSrc
import Derived.Laws.NewBlocks
namespace Go.Proofs.Ytfgcfiejkjhebaa
open Go.RowKit Go.Deep Go.Shelf
set_option linter.unusedVariables false
set_option linter.unusedSimpArgs false
set_option maxHeartbeats 2000000
set_option maxRecDepth 100000
theorem setRow_kp (w : World) (g : Nat) (cs : Array Value) : Kp (fun b => b = g) w (w.setRow g cs) :=
  ⟨rfl, rfl, rfl, by simp [World.setRow], fun b _ hb => setRow_other w g b cs (fun e => hb e)⟩
/-- a copy whose run is known, in a region that draws its order. -/
theorem step_copy_known {P : Program} {ops : Array Oper} {o : Oper} {a : Act} {w : World} {K : Act → World → Prop} {Q : Exit → Act → World → Prop} {E : Prop} (hg : o.guard = none) (d x : Operand) (dT sT : TypeId)
    (ho : o.op = .call { callee := .builtin .copy, args := #[d, x], argTypes := #[dT, sT] }) (v u : Value) (hd : a.eval d = v) (hx : a.eval x = u) {v' : Value} {w' : World} (hr : (Builtin.copy_ #[dT, sT] o.type #[v, u]).run P w = .ok v' w') (hK : K (a.put o.dst v') w') :
    if Region.wanted o (yielded ops a.tmps) = true then Oper.wp P o a w K Q else E := by
  rw [if_pos (by simp [Region.wanted, hg])]
  unfold Oper.wp
  simp [execOp, ho, resolve, invoke, builtin, hd, hx, hr, Result.andThen]
  exact hK
/-- an order at a place. -/
def ins (i : Nat) (x : Nat × Or) (l : LO) : LO := l.take i ++ x :: l.drop i
theorem ins_len {i : Nat} {x : Nat × Or} {l : LO} (h : i ≤ l.length) : (ins i x l).length = l.length + 1 := by simp [ins]; omega
theorem pvs_ins (i : Nat) (x : Nat × Or) (l : LO) : pvs (ins i x l) = (pvs l).take i ++ pv x.1 :: (pvs l).drop i := by simp [pvs, ins]
theorem pvs_one (l : LO) : ∀ v ∈ pvs l, v.oneCell' = true := by
  intro v hv
  obtain ⟨x, _, rfl⟩ := List.mem_map.1 hv
  rfl
theorem own_mk {w : World} {g c n : Nat} {cur : Array Value} {xs : List Value} (hr : w.heap[g]? = some (.cells cur 87 (0, 0))) (hn : n ≤ c) (hc : c ≤ maxLen) (hs : cur.size = c) (ht : cur.toList.take n = xs) (hl : xs.length = n) : w.ownsRow 0 87 1 (.slice (some ⟨g, 0, none⟩) n c) n xs :=
  ⟨by omega, .inr ⟨g, c, cur, rfl, Nat.zero_le _, hr, hn, hc, by omega, by rw [Nat.mul_one]; exact ht⟩⟩
theorem size92 : (Try.prog.info? 87).map (·.size) = some 1 := by kernel_rfl
theorem apart (vb g i lb cb c : Nat) (cur vc : Array Value) (w : World) (hv : w.heap[vb]? = some (.cells vc 87 (0, 0))) (hg : w.heap[g]? = some (.cells cur 87 (0, 0))) (hne : vb ≠ g) (hc : cur.size ≠ 0) :
    (callFunc 81 #[.slice (some ⟨vb, 0, none⟩) 1 1, .slice (some ⟨g, i, none⟩) lb cb]).run Try.prog w = .ok (.value (.bool false)) w := by
  have h1 : w.shape? vb = some (87, vc.size) := by simp [World.shape?, hv]
  have h2 : w.shape? g = some (87, cur.size) := by simp [World.shape?, hg]
  rw [run_callFunc_extern Try.func81 (by kernel_rfl) (by kernel_rfl) (by kernel_rfl) (e := Extern.SlicesOverlaps.overlaps #[63, 63] #[4]) (by kernel_rfl),
    Lib.run_overlaps_apart w 63 4 87 Try.underlying63 1 Try.sizeOf87 ⟨vb, 0, none⟩ ⟨g, i, none⟩ 1 1 lb cb hne 87 87 vc.size cur.size h1 h2 hc (row_frz hv 0) (row_frz hv _)]
  rfl
theorem shiftL {A P : List Value} {i n : Nat} (v : Value) (hP : P.length = n) (hi : i < n) (hA : A.take n = P) (hl : n + 1 ≤ A.length) :
    (((A.take (i + 1) ++ P.drop i ++ A.drop (i + 1 + (P.drop i).length)).take i ++ [v] ++ (A.take (i + 1) ++ P.drop i ++ A.drop (i + 1 + (P.drop i).length)).drop (i + [v].length))).take (n + 1) = P.take i ++ v :: P.drop i := by
  have e0 : (A.take (i + 1)).length = i + 1 := by rw [List.length_take]; omega
  have e1 : (A.take (i + 1) ++ P.drop i ++ A.drop (i + 1 + (P.drop i).length)).take i = P.take i := by
    rw [List.append_assoc, List.take_append_of_le_length (by omega), List.take_take, ← hA, List.take_take]
    congr 1; omega
  have e2 : (A.take (i + 1) ++ P.drop i ++ A.drop (i + 1 + (P.drop i).length)).drop (i + [v].length) = P.drop i ++ A.drop (i + 1 + (P.drop i).length) := by
    rw [List.append_assoc, List.drop_append_of_le_length (by simp; omega), List.drop_of_length_le (by simp; omega), List.nil_append]
  rw [e1, e2]
  have e3 : P.take i ++ [v] ++ (P.drop i ++ A.drop (i + 1 + (P.drop i).length)) = (P.take i ++ v :: P.drop i) ++ A.drop (i + 1 + (P.drop i).length) := by simp
  rw [e3, List.take_append_of_le_length (by simp; omega), List.take_of_length_le (by simp; omega)]
theorem take_row {cur : Array Value} {l : LO} (hl : l.length ≤ cur.size) (h : ∀ i (hi : i < l.length), cur[i]? = some (pv (l[i]).1)) : cur.toList.take l.length = pvs l := by
  apply List.ext_getElem?
  intro j
  rw [List.getElem?_take]
  by_cases hj : j < l.length
  · rw [if_pos hj, Array.getElem?_toList, h j hj]
    simp [pvs, hj]
  · rw [if_neg hj, List.getElem?_eq_none (by rw [pvs_len]; omega)]
/-- there is room, ahead of others. -/
theorem insert_shift (g c : Nat) (l : LO) (i : Nat) (x : Nat × Or) (vb : Nat) (w : World) (h : Li w (some ⟨g, 0, none⟩) c l) (hi : i < l.length) (hroom : l.length + 1 ≤ c) (hn : l.length ≤ 1048576) (hv : w.heap[vb]? = some (.cells #[pv x.1] 87 (0, 0))) (hne : vb ≠ g) (hx : w.heap[x.1]? = some (.cells (orow x.2) 42 (0, 0))) :
    Calls Try.prog 67 #[.slice (some ⟨g, 0, none⟩) l.length c, .int .i64 i, .slice (some ⟨vb, 0, none⟩) 1 1] w fun e w' => e = .returned (.slice (some ⟨g, 0, none⟩) (ins i x l).length c) ∧ Li w' (some ⟨g, 0, none⟩) c (ins i x l) ∧ Kp (fun b => b = g) w w' := by
  obtain ⟨g', cur, hp, hr, hcs, hlc, hcm, hcell⟩ := h.some (by omega)
  obtain rfl : g = g' := by injection hp with hp; injection hp
  unfold maxLen at hcm
  have hcz : cur.size ≠ 0 := by omega
  have hov : ∀ lb cb, (callFunc 81 #[.slice (some ⟨vb, 0, none⟩) 1 1, .slice (some ⟨g, i + 1, none⟩) lb cb]).run Try.prog w = .ok (.value (.bool false)) w := fun lb cb => apart vb g (i + 1) lb cb c cur _ w hv hr hne hcz
  have hdl : ((pvs l).drop i).length = l.length - i := by rw [List.length_drop, pvs_len]
  obtain ⟨R1, hR1⟩ : ∃ R1, (cur.toList.take (i + 1) ++ (pvs l).drop i ++ cur.toList.drop (i + 1 + ((pvs l).drop i).length)).toArray = R1 := ⟨_, rfl⟩
  have hs1 : R1.size = c := by rw [← hR1]; simp [hdl]; omega
  have hcp1 : ∀ ty dc sc, (Builtin.copy_ #[64, 64] ty #[.slice (some ⟨g, i + 1, none⟩) (l.length + 1 - (i + 1)) dc, .slice (some ⟨g, i, none⟩) (l.length + 1 - i) sc]).run Try.prog w.drew = .ok (goInt ((pvs l).drop i).length) (w.drew.setRow g R1) := fun ty dc sc => by
    rw [← hR1]
    refine run_copy_row Try.prog w.drew 64 64 ty 87 g (i + 1) (l.length + 1 - (i + 1)) dc ⟨g, i, none⟩ (l.length + 1 - i) sc cur 87 ((pvs l).drop i) Try.underlying64 size92 hr (by rw [hdl]; simp only [Nat.min_def]; split <;> omega) (fun j v hj => ?_) (by rw [hdl]; omega) (fun v hv => pvs_one l v (List.mem_of_mem_drop hv))
    rw [Addr.add_lit]
    have hj2 : j < ((pvs l).drop i).length := (List.getElem?_eq_some_iff.1 hj).1
    have : w.cell? ⟨g, i + j, none⟩ = some v := by
      rw [row_cell hr, hcell (i + j) (by omega)]
      rw [List.getElem?_drop] at hj
      simp only [pvs, List.getElem?_map] at hj
      rw [List.getElem?_eq_getElem (by omega)] at hj
      exact hj
    exact this
  have hg1 : (w.drew.setRow g R1).heap[g]? = some (.cells R1 87 (0, 0)) := setRow_heap w.drew g cur R1 87 (0, 0) hr
  have hv1 : (w.drew.setRow g R1).heap[vb]? = some (.cells #[pv x.1] 87 (0, 0)) := by rw [setRow_other w.drew g vb R1 hne]; exact hv
  obtain ⟨R2, hR2⟩ : ∃ R2, (R1.toList.take i ++ [pv x.1] ++ R1.toList.drop (i + [pv x.1].length)).toArray = R2 := ⟨_, rfl⟩
  have hcp2 : ∀ ty dc, (Builtin.copy_ #[64, 63] ty #[.slice (some ⟨g, i, none⟩) (l.length + 1 - i) dc, .slice (some ⟨vb, 0, none⟩) 1 1]).run Try.prog (w.drew.setRow g R1) = .ok (goInt ([pv x.1] : List Value).length) ((w.drew.setRow g R1).setRow g R2) := fun ty dc => by
    rw [← hR2]
    refine run_copy_row Try.prog (w.drew.setRow g R1) 64 63 ty 87 g i (l.length + 1 - i) dc ⟨vb, 0, none⟩ 1 1 R1 87 [pv x.1] Try.underlying64 size92 hg1 (by simp only [Nat.min_def]; split <;> simp <;> omega) (fun j v hj => ?_) (by simp; omega) (fun v hv => by simp at hv; subst hv; rfl)
    obtain rfl : j = 0 := by have := (List.getElem?_eq_some_iff.1 hj).1; simp at this; omega
    rw [Addr.add_lit]
    have := row_cell hv1 0
    simp only [List.getElem?_toArray] at this
    rw [hj] at this
    exact this
  rw [setRow_setRow] at hcp2
  have w1 : IntKind.i64.wrap ((i : Int) + 1) = (i : Int) + 1 := by rw [IntKind.wrap_i64]; omega
  have b1 : (0 : Int) ≤ (i : Int) + 1 := by omega
  have t1 : ((i : Int) + 1).toNat = i + 1 := by omega
  have z2 : ¬ ((i : Int) = (l.length : Int)) := by omega
  have z3 : ((i : Int) == (l.length : Int)) = false := by simpa using z2
  have z4 : ¬ ((c : Int) < (l.length : Int) + 1) := by omega
  have z5 : decide ((c : Int) < (l.length : Int) + 1) = false := by simpa using z4
  have b2 : ¬ (c = i + 1) := by omega
  have b3 : ¬ (c = i) := by omega
  have b4 : (i : Int) ≤ (l.length : Int) + 1 := by omega
  have b5 : i ≤ l.length := by omega
  have HR1 := hid hR1
  have HR2 := hid hR2
  have HG1 := hid hg1
  have HV1 := hid hv1
  have HC := hid hcell
  have HL := hid h
  have HX := hid hx
  have HR := hid hr
  clear hR1 hR2 hg1 hv1 hcell h hx hr hv hdl z2 z4
  go_enter Try.func67, Try.ntmps67
  go_wp2_with (simp only [hov])
  go_region_law (refine step_copy_known (by rfl) (.tmp 73) (.tmp 76) 64 64 (by rfl) (.slice (some ⟨g, i + 1, none⟩) (l.length + 1 - (i + 1)) (c - (i + 1))) (.slice (some ⟨g, i, none⟩) (l.length + 1 - i) (c - i)) (by simp [Act.eval, Act.put]) (by simp [Act.eval, Act.put]) (hcp1 _ _ _) ?_)
  go_wp2
  go_ret
  have hr := HR.out
  have e2 : (w.drew.setRow g R2).heap[g]? = some (.cells R2 87 (0, 0)) := setRow_heap w.drew g cur R2 87 (0, 0) hr
  have hk : Kp (fun b => b = g) w (w.drew.setRow g R2) := (Kp.of _ (bdrew1 w)).trans (setRow_kp _ _ _) (fun _ _ h => h)
  refine ⟨by rw [ins_len b5]; rfl, ⟨?_, fun y hy => ?_⟩, hk⟩
  · rw [ins_len b5]
    refine own_mk e2 hroom (by unfold maxLen; exact hcm) ?_ ?_ (by rw [pvs_len, ins_len b5])
    · rw [← HR2.out]; simp; omega
    · rw [pvs_ins, ← HR2.out, ← HR1.out]
      exact shiftL (pv x.1) (pvs_len l) hi (take_row (by omega) HC.out) (by simp; omega)
  · have hm : y = x ∨ y ∈ l := by
      rcases List.mem_append.1 hy with h | h
      · exact .inr (List.mem_of_mem_take h)
      · rcases List.mem_cons.1 h with h | h
        · exact .inl h
        · exact .inr (List.mem_of_mem_drop h)
    have hy' : w.heap[y.1]? = some (.cells (orow y.2) 42 (0, 0)) := by
      rcases hm with rfl | h
      · exact HX.out
      · exact HL.out.at' y h
    exact hk.row hy' (row_ne hy' hr (by decide))
end Go.Proofs.Ytfgcfiejkjhebaa
