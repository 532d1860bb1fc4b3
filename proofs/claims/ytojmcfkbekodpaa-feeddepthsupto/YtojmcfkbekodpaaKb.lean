/-
  An order is taken out of a list.
-/
import Derived.Test.YtojmcfkbekodpaaRuB
import Derived.Test.YtojmcfkbekodpaaShelf
import Derived.Lib.OwnBridge
import Derived.Deep.RegionLaw
import Derived.Lib.AppendZerosOnto
import Derived.Lib.Overlaps
import Derived.Laws.Externs
import Derived.Laws.CopyOwn
import Derived.Deep.AppendSrc
import Derived.Laws.NewBlocks
namespace Go.Proofs.Ytojmcfkbekodpaa
open Go.RowKit Go.Deep Go.Shelf Go.Sort
set_option linter.unusedVariables false
set_option linter.unusedSimpArgs false
set_option maxHeartbeats 1000000
set_option maxRecDepth 100000
def pas (l : LO) : List (Option Addr) := l.map fun x => some ⟨x.1, 0, none⟩
theorem pas_enc (l : LO) : (pas l).map Value.pointer = pvs l := by simp [pas, pvs, pv]
theorem pas_len (l : LO) : (pas l).length = l.length := by simp [pas]
theorem kp_putRow {w : World} {g q : Nat} {d : Array (Option Addr)} : Kp (fun b => b = g) w (putRow Value.pointer (Sort.ahead w q) g 0 d) :=
  ⟨rfl, rfl, rfl, by simp [putRow, mapBlock, Sort.ahead], fun b hb hN => by
    have : g ≠ b := fun e => hN e.symm
    simp [putRow, mapBlock, Sort.ahead, Array.getElem?_modify, this]⟩
theorem zero92 : ∀ w, (zeroValue 100).run Try.prog w = .ok (Value.pointer none) w := Try.zeroValue100
theorem info92all : (Try.prog.info? 100).map (fun i => (i.zero, i.size, i.bytes)) = some (some (.pointer none), 1, 8) := by kernel_rfl
theorem info92 : ∃ i0, Try.prog.info? 100 = some i0 ∧ i0.zero = some (.pointer none) ∧ i0.size = 1 ∧ i0.bytes = 8 := by
  have h := info92all
  cases hq : Try.prog.info? 100 with
  | none => rw [hq] at h; cases h
  | some i =>
    rw [hq] at h
    simp only [Option.map_some, Option.some.injEq, Prod.mk.injEq] at h
    exact ⟨i, rfl, h.1, h.2.1, h.2.2⟩
theorem delete_any (p : Option Addr) (c : Nat) (l : LO) (i : Nat) (w : World) (h : Li w p c l) (hi : i < l.length) (hnd : (l.map (·.1)).Nodup) :
    Calls Try.prog 71 #[.slice p l.length c, .int .i64 i, .int .i64 ((i : Int) + 1)] w fun e w' => e = .returned (.slice p (l.eraseIdx i).length c) ∧ Li w' p c (l.eraseIdx i) ∧ Kp (OfP p) w w' := by
  obtain ⟨g, cur, rfl, hr, hcs, hlc, hcm, hcell⟩ := h.some (by omega)
  obtain ⟨i0, hi0, _, hs0, _⟩ := info92
  have ho := h.own
  rw [← pas_enc] at ho
  have hH : Holds Value.pointer w g 0 (pas l).toArray := by
    obtain ⟨g', cap', e, _, _, _, _, _, hh⟩ := Lib.holds_of_ownsRow ho (by intro e; cases e)
    injection e with e1 _ _
    injection e1 with e1
    injection e1 with e1
    rw [e1]; exact hh
  have C := AnyE.slices_Delete Try.del Value.pointer (fun _ => rfl) none zero92 i0 hi0 hs0 g 0 c i (i + 1) (pas l).toArray w hH (by simp [pas_len]; exact hlc) (by unfold maxLen at hcm; omega) (by omega) (by simp [pas_len]; omega)
  change Calls Try.prog 71 #[.slice (some ⟨g, 0, none⟩) (pas l).toArray.size c, .int .i64 i, .int .i64 ((i + 1 : Nat) : Int)] w _ at C
  have e1 : (pas l).toArray.size = l.length := by simp [pas_len]
  rw [e1] at C
  have e2 : ((i + 1 : Nat) : Int) = (i : Int) + 1 := by omega
  rw [e2] at C
  refine C.mono ?_
  rintro e w' ⟨rfl, q, rfl⟩
  have e3 : l.length - (i + 1 - i) = (l.eraseIdx i).length := by rw [List.length_eraseIdx]; simp [hi]
  rw [e3]
  have hk : Kp (fun b => b = g) w _ := kp_putRow (q := q) (d := ((pas l).toArray.toList.take i ++ (pas l).toArray.toList.drop (i + 1) ++ List.replicate (i + 1 - i) none).toArray)
  refine ⟨rfl, ⟨?_, fun x hx => ?_⟩, hk.mono (fun b _ e => by rw [e]; exact OfP.mk g)⟩
  · have := Lib.ownsRow_putRow (q := q) (k := (l.eraseIdx i).length) (ys := (pas l).toArray.toList.take i ++ (pas l).toArray.toList.drop (i + 1) ++ List.replicate (i + 1 - i) none) ho (by simp [pas_len]; omega) (by rw [← e3]; omega)
    have e4 : (((pas l).toArray.toList.take i ++ (pas l).toArray.toList.drop (i + 1) ++ List.replicate (i + 1 - i) none).take (l.eraseIdx i).length).map Value.pointer = pvs (l.eraseIdx i) := by
      have e5 : (pas l).toArray.toList.take i ++ (pas l).toArray.toList.drop (i + 1) = pas (l.eraseIdx i) := by
        simp only [pas, List.eraseIdx_eq_take_drop_succ, List.map_append, List.map_take, List.map_drop]
      rw [e5, List.take_append_of_le_length (by rw [pas_len]; exact Nat.le_refl _), List.take_of_length_le (by rw [pas_len]; exact Nat.le_refl _), pas_enc]
    rw [e4] at this
    exact this
  · have hx' := h.at' x (List.mem_of_mem_eraseIdx hx)
    exact hk.row hx' (fun e => row_ne hx' hr (by decide) e)
end Go.Proofs.Ytojmcfkbekodpaa
namespace Go.Proofs.Ytojmcfkbekodpaa
open Go.RowKit Go.Deep Go.Shelf
set_option linter.unusedVariables false
set_option linter.unusedSimpArgs false
set_option maxHeartbeats 2000000
set_option maxRecDepth 100000
theorem setRow_kp (w : World) (g : Nat) (cs : Array Value) : Kp (fun b => b = g) w (w.setRow g cs) :=
  ⟨rfl, rfl, rfl, by simp [World.setRow], fun b _ hb => setRow_other w g b cs (fun e => hb e)⟩
/-- a copy whose run is known, in a region that draws its order. -/
theorem step_copy_known {P : Program} {ops : Array Oper} {o : Oper} {a : Act} {w : World} {K : Act → World → Prop} {Q : Exit → Act → World → Prop} {E : Prop} (hg : o.guard = none) (d x : Operand) (dT sT : TypeId)
    (ho : o.op = .call { callee := .builtin .copy, args := #[d, x], argTypes := #[dT, sT] }) (v u : Value) (hd : a.eval d = v) (hx : a.eval x = u) {v' : Value} {w' : World} (hr : (Builtin.copy_ #[dT, sT] o.type #[v, u]).run P w = .ok v' w') (hK : K (a.put o.dst v') w') :
    if Region.wanted o (yielded ops a.tmps) = true then Oper.wp P o a w K Q else E := by
  rw [if_pos (by simp [Region.wanted, hg])]
  unfold Oper.wp
  simp [execOp, ho, resolve, invoke, builtin, hd, hx, hr, Result.andThen]
  exact hK
/-- an order at a place. -/
def ins (i : Nat) (x : Nat × Or) (l : LO) : LO := l.take i ++ x :: l.drop i
theorem ins_len {i : Nat} {x : Nat × Or} {l : LO} (h : i ≤ l.length) : (ins i x l).length = l.length + 1 := by simp [ins]; omega
theorem pvs_ins (i : Nat) (x : Nat × Or) (l : LO) : pvs (ins i x l) = (pvs l).take i ++ pv x.1 :: (pvs l).drop i := by simp [pvs, ins]
theorem pvs_one (l : LO) : ∀ v ∈ pvs l, v.oneCell' = true := by
  intro v hv
  obtain ⟨x, _, rfl⟩ := List.mem_map.1 hv
  rfl
theorem own_mk {w : World} {g c n : Nat} {cur : Array Value} {xs : List Value} (hr : w.heap[g]? = some (.cells cur 100 (0, 0))) (hn : n ≤ c) (hc : c ≤ maxLen) (hs : cur.size = c) (ht : cur.toList.take n = xs) (hl : xs.length = n) : w.ownsRow 0 100 1 (.slice (some ⟨g, 0, none⟩) n c) n xs :=
  ⟨by omega, .inr ⟨g, c, cur, rfl, Nat.zero_le _, hr, hn, hc, by omega, by rw [Nat.mul_one]; exact ht⟩⟩
theorem size92 : (Try.prog.info? 100).map (·.size) = some 1 := by kernel_rfl
theorem apart (vb g i lb cb c : Nat) (cur vc : Array Value) (w : World) (hv : w.heap[vb]? = some (.cells vc 100 (0, 0))) (hg : w.heap[g]? = some (.cells cur 100 (0, 0))) (hne : vb ≠ g) (hc : cur.size ≠ 0) :
    (callFunc 93 #[.slice (some ⟨vb, 0, none⟩) 1 1, .slice (some ⟨g, i, none⟩) lb cb]).run Try.prog w = .ok (.value (.bool false)) w := by
  have h1 : w.shape? vb = some (100, vc.size) := by simp [World.shape?, hv]
  have h2 : w.shape? g = some (100, cur.size) := by simp [World.shape?, hg]
  rw [run_callFunc_extern Try.func93 (by kernel_rfl) (by kernel_rfl) (by kernel_rfl) (e := Extern.SlicesOverlaps.overlaps #[95, 95] #[4]) (by kernel_rfl),
    Lib.run_overlaps_apart w 95 4 100 Try.underlying95 1 Try.sizeOf100 ⟨vb, 0, none⟩ ⟨g, i, none⟩ 1 1 lb cb hne 100 100 vc.size cur.size h1 h2 hc (row_frz hv 0) (row_frz hv _)]
  rfl
theorem shiftL {A P : List Value} {i n : Nat} (v : Value) (hP : P.length = n) (hi : i < n) (hA : A.take n = P) (hl : n + 1 ≤ A.length) :
    (((A.take (i + 1) ++ P.drop i ++ A.drop (i + 1 + (P.drop i).length)).take i ++ [v] ++ (A.take (i + 1) ++ P.drop i ++ A.drop (i + 1 + (P.drop i).length)).drop (i + [v].length))).take (n + 1) = P.take i ++ v :: P.drop i := by
  have e0 : (A.take (i + 1)).length = i + 1 := by rw [List.length_take]; omega
  have e1 : (A.take (i + 1) ++ P.drop i ++ A.drop (i + 1 + (P.drop i).length)).take i = P.take i := by
    rw [List.append_assoc, List.take_append_of_le_length (by omega), List.take_take, ← hA, List.take_take]
    congr 1; omega
  have e2 : (A.take (i + 1) ++ P.drop i ++ A.drop (i + 1 + (P.drop i).length)).drop (i + [v].length) = P.drop i ++ A.drop (i + 1 + (P.drop i).length) := by
    rw [List.append_assoc, List.drop_append_of_le_length (by simp; omega), List.drop_of_length_le (by simp; omega), List.nil_append]
  rw [e1, e2]
  have e3 : P.take i ++ [v] ++ (P.drop i ++ A.drop (i + 1 + (P.drop i).length)) = (P.take i ++ v :: P.drop i) ++ A.drop (i + 1 + (P.drop i).length) := by simp
  rw [e3, List.take_append_of_le_length (by simp; omega), List.take_of_length_le (by simp; omega)]
theorem take_row {cur : Array Value} {l : LO} (hl : l.length ≤ cur.size) (h : ∀ i (hi : i < l.length), cur[i]? = some (pv (l[i]).1)) : cur.toList.take l.length = pvs l := by
  apply List.ext_getElem?
  intro j
  rw [List.getElem?_take]
  by_cases hj : j < l.length
  · rw [if_pos hj, Array.getElem?_toList, h j hj]
    simp [pvs, hj]
  · rw [if_neg hj, List.getElem?_eq_none (by rw [pvs_len]; omega)]
/-- there is room, ahead of others. -/
theorem insert_shift (g c : Nat) (l : LO) (i : Nat) (x : Nat × Or) (vb : Nat) (w : World) (h : Li w (some ⟨g, 0, none⟩) c l) (hi : i < l.length) (hroom : l.length + 1 ≤ c) (hn : l.length ≤ 1048576) (hv : w.heap[vb]? = some (.cells #[pv x.1] 100 (0, 0))) (hne : vb ≠ g) (hx : w.heap[x.1]? = some (.cells (orow x.2) 86 (0, 0))) :
    Calls Try.prog 88 #[.slice (some ⟨g, 0, none⟩) l.length c, .int .i64 i, .slice (some ⟨vb, 0, none⟩) 1 1] w fun e w' => e = .returned (.slice (some ⟨g, 0, none⟩) (ins i x l).length c) ∧ Li w' (some ⟨g, 0, none⟩) c (ins i x l) ∧ Kp (fun b => b = g) w w' := by
  obtain ⟨g', cur, hp, hr, hcs, hlc, hcm, hcell⟩ := h.some (by omega)
  obtain rfl : g = g' := by injection hp with hp; injection hp
  unfold maxLen at hcm
  have hcz : cur.size ≠ 0 := by omega
  have hov : ∀ lb cb, (callFunc 93 #[.slice (some ⟨vb, 0, none⟩) 1 1, .slice (some ⟨g, i + 1, none⟩) lb cb]).run Try.prog w = .ok (.value (.bool false)) w := fun lb cb => apart vb g (i + 1) lb cb c cur _ w hv hr hne hcz
  have hdl : ((pvs l).drop i).length = l.length - i := by rw [List.length_drop, pvs_len]
  obtain ⟨R1, hR1⟩ : ∃ R1, (cur.toList.take (i + 1) ++ (pvs l).drop i ++ cur.toList.drop (i + 1 + ((pvs l).drop i).length)).toArray = R1 := ⟨_, rfl⟩
  have hs1 : R1.size = c := by rw [← hR1]; simp [hdl]; omega
  have hcp1 : ∀ ty dc sc, (Builtin.copy_ #[96, 96] ty #[.slice (some ⟨g, i + 1, none⟩) (l.length + 1 - (i + 1)) dc, .slice (some ⟨g, i, none⟩) (l.length + 1 - i) sc]).run Try.prog w.drew = .ok (goInt ((pvs l).drop i).length) (w.drew.setRow g R1) := fun ty dc sc => by
    rw [← hR1]
    refine run_copy_row Try.prog w.drew 96 96 ty 100 g (i + 1) (l.length + 1 - (i + 1)) dc ⟨g, i, none⟩ (l.length + 1 - i) sc cur 100 ((pvs l).drop i) Try.underlying96 size92 hr (by rw [hdl]; simp only [Nat.min_def]; split <;> omega) (fun j v hj => ?_) (by rw [hdl]; omega) (fun v hv => pvs_one l v (List.mem_of_mem_drop hv))
    rw [Addr.add_lit]
    have hj2 : j < ((pvs l).drop i).length := (List.getElem?_eq_some_iff.1 hj).1
    have : w.cell? ⟨g, i + j, none⟩ = some v := by
      rw [row_cell hr, hcell (i + j) (by omega)]
      rw [List.getElem?_drop] at hj
      simp only [pvs, List.getElem?_map] at hj
      rw [List.getElem?_eq_getElem (by omega)] at hj
      exact hj
    exact this
  have hg1 : (w.drew.setRow g R1).heap[g]? = some (.cells R1 100 (0, 0)) := setRow_heap w.drew g cur R1 100 (0, 0) hr
  have hv1 : (w.drew.setRow g R1).heap[vb]? = some (.cells #[pv x.1] 100 (0, 0)) := by rw [setRow_other w.drew g vb R1 hne]; exact hv
  obtain ⟨R2, hR2⟩ : ∃ R2, (R1.toList.take i ++ [pv x.1] ++ R1.toList.drop (i + [pv x.1].length)).toArray = R2 := ⟨_, rfl⟩
  have hcp2 : ∀ ty dc, (Builtin.copy_ #[96, 95] ty #[.slice (some ⟨g, i, none⟩) (l.length + 1 - i) dc, .slice (some ⟨vb, 0, none⟩) 1 1]).run Try.prog (w.drew.setRow g R1) = .ok (goInt ([pv x.1] : List Value).length) ((w.drew.setRow g R1).setRow g R2) := fun ty dc => by
    rw [← hR2]
    refine run_copy_row Try.prog (w.drew.setRow g R1) 96 95 ty 100 g i (l.length + 1 - i) dc ⟨vb, 0, none⟩ 1 1 R1 100 [pv x.1] Try.underlying96 size92 hg1 (by simp only [Nat.min_def]; split <;> simp <;> omega) (fun j v hj => ?_) (by simp; omega) (fun v hv => by simp at hv; subst hv; rfl)
    obtain rfl : j = 0 := by have := (List.getElem?_eq_some_iff.1 hj).1; simp at this; omega
    rw [Addr.add_lit]
    have := row_cell hv1 0
    simp only [List.getElem?_toArray] at this
    rw [hj] at this
    exact this
  rw [setRow_setRow] at hcp2
  have w1 : IntKind.i64.wrap ((i : Int) + 1) = (i : Int) + 1 := by rw [IntKind.wrap_i64]; omega
  have b1 : (0 : Int) ≤ (i : Int) + 1 := by omega
  have t1 : ((i : Int) + 1).toNat = i + 1 := by omega
  have z2 : ¬ ((i : Int) = (l.length : Int)) := by omega
  have z3 : ((i : Int) == (l.length : Int)) = false := by simpa using z2
  have z4 : ¬ ((c : Int) < (l.length : Int) + 1) := by omega
  have z5 : decide ((c : Int) < (l.length : Int) + 1) = false := by simpa using z4
  have b2 : ¬ (c = i + 1) := by omega
  have b3 : ¬ (c = i) := by omega
  have b4 : (i : Int) ≤ (l.length : Int) + 1 := by omega
  have b5 : i ≤ l.length := by omega
  have HR1 := hid hR1
  have HR2 := hid hR2
  have HG1 := hid hg1
  have HV1 := hid hv1
  have HC := hid hcell
  have HL := hid h
  have HX := hid hx
  have HR := hid hr
  clear hR1 hR2 hg1 hv1 hcell h hx hr hv hdl z2 z4
  go_enter Try.func88, Try.ntmps88
  go_wp2_with (simp only [hov])
  go_region_law (refine step_copy_known (by rfl) (.tmp 73) (.tmp 76) 96 96 (by rfl) (.slice (some ⟨g, i + 1, none⟩) (l.length + 1 - (i + 1)) (c - (i + 1))) (.slice (some ⟨g, i, none⟩) (l.length + 1 - i) (c - i)) (by simp [Act.eval, Act.put]) (by simp [Act.eval, Act.put]) (hcp1 _ _ _) ?_)
  go_wp2
  go_ret
  have hr := HR.out
  have e2 : (w.drew.setRow g R2).heap[g]? = some (.cells R2 100 (0, 0)) := setRow_heap w.drew g cur R2 100 (0, 0) hr
  have hk : Kp (fun b => b = g) w (w.drew.setRow g R2) := (Kp.of _ (bdrew1 w)).trans (setRow_kp _ _ _) (fun _ _ h => h)
  refine ⟨by rw [ins_len b5]; rfl, ⟨?_, fun y hy => ?_⟩, hk⟩
  · rw [ins_len b5]
    refine own_mk e2 hroom (by unfold maxLen; exact hcm) ?_ ?_ (by rw [pvs_len, ins_len b5])
    · rw [← HR2.out]; simp; omega
    · rw [pvs_ins, ← HR2.out, ← HR1.out]
      exact shiftL (pv x.1) (pvs_len l) hi (take_row (by omega) HC.out) (by simp; omega)
  · have hm : y = x ∨ y ∈ l := by
      rcases List.mem_append.1 hy with h | h
      · exact .inr (List.mem_of_mem_take h)
      · rcases List.mem_cons.1 h with h | h
        · exact .inl h
        · exact .inr (List.mem_of_mem_drop h)
    have hy' : w.heap[y.1]? = some (.cells (orow y.2) 86 (0, 0)) := by
      rcases hm with rfl | h
      · exact HX.out
      · exact HL.out.at' y h
    exact hk.row hy' (row_ne hy' hr (by decide))
end Go.Proofs.Ytojmcfkbekodpaa
namespace Go.Proofs.Ytojmcfkbekodpaa
open Go.RowKit Go.Deep Go.Shelf
set_option linter.unusedVariables false
set_option linter.unusedSimpArgs false
set_option maxHeartbeats 2000000
set_option maxRecDepth 100000
theorem li_new {w w' : World} {l l' : LO} {p : Option Addr} {c G : Nat} {N : Nat} {ROW : Array Value} {x : Nat × Or} (h : Li w p c l) (hx : w.heap[x.1]? = some (.cells (orow x.2) 86 (0, 0))) (hm : ∀ y ∈ l', y = x ∨ y ∈ l) (hb : Below w.heap.size w w')
    (hr : w'.heap[N]? = some (.cells ROW 100 (0, 0))) (hG : l'.length ≤ G) (hGm : G ≤ maxLen) (hs : ROW.size = G) (ht : ROW.toList.take l'.length = pvs l') : Li w' (some ⟨N, 0, none⟩) G l' :=
  ⟨own_mk hr hG hGm hs ht (pvs_len _), fun y hy => by
    rcases hm y hy with rfl | h'
    · exact row_on hx hb
    · exact row_on (h.at' y h') hb⟩
theorem ins_mem {i : Nat} {x y : Nat × Or} {l : LO} (hy : y ∈ ins i x l) : y = x ∨ y ∈ l := by
  rcases List.mem_append.1 hy with h | h
  · exact .inr (List.mem_of_mem_take h)
  · rcases List.mem_cons.1 h with h | h
    · exact .inl h
    · exact .inr (List.mem_of_mem_drop h)
theorem src_one {w : World} {vb : Nat} {b : Nat} (hv : w.heap[vb]? = some (.cells #[pv b] 100 (0, 0))) : Src Try.prog 1 95 (.slice (some ⟨vb, 0, none⟩) 1 1) 1 [pv b] w :=
  Src.ofSlice w Try.underlying95 ⟨vb, 0, none⟩ 1 1 [pv b] rfl (fun j u hj => by
    obtain rfl : j = 0 := by have := (List.getElem?_eq_some_iff.1 hj).1; simp at this; omega
    rw [Addr.add_lit]
    have := row_cell hv 0
    simp only [List.getElem?_toArray] at this
    rw [hj] at this
    exact this) (fun u hu => by simp at hu; subst hu; rfl)
theorem src_one' {s : Nat} {w : World} {vb : Nat} {b : Nat} (hs : s = 1) (hv : w.heap[vb]? = some (.cells #[pv b] 100 (0, 0))) : Src Try.prog s 95 (.slice (some ⟨vb, 0, none⟩) 1 1) 1 [pv b] w := by
  subst hs; exact src_one hv
theorem insert_end (p : Option Addr) (c : Nat) (l : LO) (x : Nat × Or) (vb : Nat) (w : World) (h : Li w p c l) (hn : l.length ≤ 1048576) (hv : w.heap[vb]? = some (.cells #[pv x.1] 100 (0, 0))) (hx : w.heap[x.1]? = some (.cells (orow x.2) 86 (0, 0))) :
    Calls Try.prog 88 #[.slice p l.length c, .int .i64 l.length, .slice (some ⟨vb, 0, none⟩) 1 1] w fun e w' => ∃ p' c', e = .returned (.slice p' (ins l.length x l).length c') ∧ Li w' p' c' (ins l.length x l) ∧ (∀ g, OfP p' g → OfP p g ∨ w.heap.size ≤ g) ∧ Kp (OfP p) w w' := by
  obtain ⟨i0, hi0, hz0, hs0, hb0⟩ := info92
  have hil := ins_len (x := x) (Nat.le_refl l.length)
  have hpe : pvs (ins l.length x l) = pvs l ++ [pv x.1] := by rw [pvs_ins, List.take_of_length_le (by rw [pvs_len]; exact Nat.le_refl _), List.drop_of_length_le (by rw [pvs_len]; exact Nat.le_refl _)]
  have HL := hid h
  have HX := hid hx
  have hsrc := src_one' hs0 hv
  by_cases hroom : l.length + 1 ≤ c
  · obtain ⟨_, ⟨e, e2⟩ | ⟨g, c', cur, e, r1, r2, r3, r4, r5, r6⟩⟩ := h.own
    · obtain ⟨_, _, hc0⟩ := Value.slice.inj e; omega
    · obtain ⟨rfl, _, rfl⟩ := Value.slice.inj e
      have hap : ∀ ty, (Builtin.append_ #[96, 95] ty #[.slice (some ⟨g, 0, none⟩) l.length c, .slice (some ⟨vb, 0, none⟩) 1 1]).run Try.prog w = .ok (.slice (some ⟨g, 0, none⟩) (l.length + 1) c) (w.setCell ⟨g, l.length, none⟩ (pv x.1)) := fun ty => by
        have := run_append_room_src w 96 95 ty 100 i0 Try.underlying96 hi0 g 0 l.length c _ 1 [pv x.1] hsrc hroom (fun j hj => by
          obtain rfl : j = 0 := by simp at hj; omega
          rw [hs0, Nat.add_zero, Nat.mul_one, Nat.zero_add, row_cell r2, Array.getElem?_eq_getElem (by omega)]; rfl) (fun j hj => row_frz r2 _)
        rw [this, hs0]
        simp [World.setCells]
      have HR := hid r2
      unfold maxLen at r4
      have HR6 := hid r6
      have zq : ((l.length : Int) == (l.length : Int)) = true := by simp
      clear h hx hv hsrc r2 r6 hi0 hz0
      go_enter Try.func88, Try.ntmps88
      go_wp2_with (at_builtin; refine Lib.wpList_append_run _ rfl _ _ _ _ rfl _ _ rfl rfl _ _ (hap _) ?_)
      go_ret
      have hr := HR.out
      have e2 : (w.setCell ⟨g, l.length, none⟩ (pv x.1)).heap[g]? = some (.cells (cur.setIfInBounds l.length (pv x.1)) 100 (0, 0)) := heap_setCell_same w g l.length cur 100 _ hr
      have hk : Kp (fun b => b = g) w (w.setCell ⟨g, l.length, none⟩ (pv x.1)) := Kp.set w g l.length _
      refine ⟨some ⟨g, 0, none⟩, c, by first | rfl | (rw [hil]; rfl), ⟨?_, fun y hy => ?_⟩, fun b hb => .inl hb, hk.mono (fun b _ e => by rw [e]; exact OfP.mk g)⟩
      · rw [hil]
        refine own_mk e2 hroom (by unfold maxLen; exact r4) (by simp; omega) ?_ (by rw [pvs_len, hil])
        rw [hpe, ← HR6.out, Array.toList_setIfInBounds, Nat.mul_one]
        rw [List.take_succ_eq_append_getElem (by simp; omega), List.take_set_of_le (by omega), List.getElem_set_self]
      · have hy' : w.heap[y.1]? = some (.cells (orow y.2) 86 (0, 0)) := by
          rcases ins_mem hy with rfl | h
          · exact HX.out
          · exact HL.out.at' y h
        exact hk.row hy' (row_ne hy' hr (by decide))
  · have hnr : c < l.length + 1 := by omega
    have hnil : p = none → l.length = 0 := by
      obtain ⟨_, ⟨e, e2⟩ | ⟨g, c', cur, e, _⟩⟩ := h.own
      · exact fun _ => e2
      · intro e2; rw [e2] at e; cases e
    have hold : (Builtin.firstCells i0.size l.length (.slice p l.length c)).run Try.prog w.drew = .ok (pvs l).toArray w.drew := by
      rw [hs0]
      by_cases h0 : 0 < l.length
      · obtain ⟨g, cur, rfl, hr, hcs, hlc, hcm, hcell⟩ := h.some h0
        refine run_firstCells_some w.drew 1 l.length ⟨g, 0, none⟩ l.length c (pvs l) (by rw [pvs_len]; omega) (fun j v hj => ?_)
        have hj2 : j < l.length := by have := (List.getElem?_eq_some_iff.1 hj).1; rwa [pvs_len] at this
        rw [Addr.add_lit]
        have : w.cell? ⟨g, 0 + j, none⟩ = some v := by
          rw [Nat.zero_add, row_cell hr, hcell j hj2]
          simp only [pvs, List.getElem?_map] at hj
          rw [List.getElem?_eq_getElem hj2] at hj
          exact hj
        exact this
      · have e0 : l = [] := List.eq_nil_of_length_eq_zero (by omega)
        subst e0
        cases p with
        | none => exact run_firstCells_none w.drew 1 0 0 c
        | some a => exact run_firstCells_some w.drew 1 0 a 0 c [] rfl (fun j v hj => by simp at hj)
    obtain ⟨G, hG⟩ : ∃ G, grownCap w (l.length + 1) c 100 = G := ⟨_, rfl⟩
    obtain ⟨ROW, hROW⟩ : ∃ ROW : Array Value, (pvs l ++ [pv x.1]).toArray ++ Builtin.zeroCells (Value.pointer none).cells (G - (l.length + 1)) = ROW := ⟨_, rfl⟩
    have hap : ∀ ty, (Builtin.append_ #[96, 95] ty #[.slice p l.length c, .slice (some ⟨vb, 0, none⟩) 1 1]).run Try.prog w = .ok (.slice (some ⟨w.heap.size, 0, none⟩) (l.length + 1) G) (w.drew.alloc (.cells ROW 100)) := fun ty => by
      rw [← hROW, ← hG]
      exact run_append_grow_src w 96 95 ty 100 i0 (.pointer none) Try.underlying96 hi0 hz0 p l.length c (pvs l) hold _ 1 [pv x.1] hsrc hnr (by omega) (by rw [hb0]; exact growslice_fits hnr (by omega))
    have hG1 : l.length + 1 ≤ G := by rw [← hG]; exact grownCap_ge w _ _ _
    have hG2 : G ≤ maxLen := by rw [← hG]; exact grownCap_le_maxLen w (l.length + 1) c 100 (by unfold maxLen; omega)
    have hsz : ROW.size = G := by
      rw [← hROW]
      simp [Builtin.zeroCells, Value.cells, pvs_len]
      omega
    have htk : ROW.toList.take (l.length + 1) = pvs l ++ [pv x.1] := by
      rw [← hROW, Array.toList_append, List.toList_toArray, List.take_append_of_le_length (by simp [pvs_len]), List.take_of_length_le (by simp [pvs_len])]
    have HT := hid htk
    have HP := hid hpe
    have HIL := hid hil
    have hnc : l.length ≤ c := by
      obtain ⟨_, ⟨e, e2⟩ | ⟨g, c', cur, e, r1, r2, r3, r4, r5, r6⟩⟩ := h.own
      · omega
      · obtain ⟨_, _, rfl⟩ := Value.slice.inj e; exact r3
    have e9 : c = l.length := by omega
    have HFIN := hid (show ∃ p' c', Ending.returned (.slice (some ⟨w.heap.size, 0, none⟩) (l.length + 1) G) = .returned (.slice p' (ins l.length x l).length c') ∧ Li (w.drew.alloc (.cells ROW 100)) p' c' (ins l.length x l) ∧ (∀ g, OfP p' g → OfP p g ∨ w.heap.size ≤ g) ∧ Kp (OfP p) w (w.drew.alloc (.cells ROW 100)) from by
      have hb : Below w.heap.size w (w.drew.alloc (.cells ROW 100)) := btr (bdrew1 w) (ball w.drew _)
      refine ⟨some ⟨w.heap.size, 0, none⟩, G, by rw [hil], li_new h hx (fun y hy => ins_mem hy) hb (World.alloc_heap_new w.drew _) (by rw [hil]; exact hG1) hG2 hsz (by rw [hil, hpe]; exact htk), fun g hg => .inr (by rw [hg.eq]; exact Nat.le_refl _), Kp.of _ hb⟩)
    have zq : ((l.length : Int) == (l.length : Int)) = true := by simp
    clear h hx hv hsrc hi0 hz0 hold hG hROW hpe hil htk
    cases p with
    | none =>
      have h0 := hnil rfl
      subst e9
      obtain rfl : l = [] := List.eq_nil_of_length_eq_zero h0
      go_enter Try.func88, Try.ntmps88
      go_wp2_with (at_builtin; refine Lib.wpList_append_run _ rfl _ _ _ _ rfl _ _ rfl rfl _ _ (hap _) ?_)
      go_ret
      exact HFIN.out
    | some a =>
      obtain ⟨ab, ao, asp⟩ := a
      subst e9
      go_enter Try.func88, Try.ntmps88
      go_wp2_with (at_builtin; refine Lib.wpList_append_run _ rfl _ _ _ _ rfl _ _ rfl rfl _ _ (hap _) ?_)
      all_goals (go_ret; exact HFIN.out)
theorem spliceL {A B P : List Value} {v : Value} {i n : Nat} (hP : P.length = n) (hi : i ≤ n) (hB : n + 1 - i ≤ B.length) (hA : A = P.take i ++ B) :
    (((A.take i ++ [v] ++ A.drop (i + [v].length)).take (i + 1) ++ P.drop i ++ (A.take i ++ [v] ++ A.drop (i + [v].length)).drop (i + 1 + (P.drop i).length))).take (n + 1) = P.take i ++ v :: P.drop i := by
  have e0 : (P.take i).length = i := by rw [List.length_take]; omega
  have e1 : A.take i = P.take i := by rw [hA, List.take_append_of_le_length (by omega), List.take_of_length_le (by omega)]
  have e2 : (A.take i ++ [v] ++ A.drop (i + [v].length)).take (i + 1) = P.take i ++ [v] := by
    rw [e1, List.take_append_of_le_length (by simp; omega), List.take_of_length_le (by simp; omega)]
  rw [e2, List.take_append_of_le_length (by simp; omega), List.take_of_length_le (by simp; omega)]
  simp
theorem insert_grow (g c : Nat) (l : LO) (i : Nat) (x : Nat × Or) (vb : Nat) (w : World) (h : Li w (some ⟨g, 0, none⟩) c l) (hi : i < l.length) (hnr : c < l.length + 1) (hn : l.length ≤ 1048576) (hv : w.heap[vb]? = some (.cells #[pv x.1] 100 (0, 0))) (hx : w.heap[x.1]? = some (.cells (orow x.2) 86 (0, 0))) :
    Calls Try.prog 88 #[.slice (some ⟨g, 0, none⟩) l.length c, .int .i64 i, .slice (some ⟨vb, 0, none⟩) 1 1] w fun e w' => ∃ N G, e = .returned (.slice (some ⟨N, 0, none⟩) (ins i x l).length G) ∧ Li w' (some ⟨N, 0, none⟩) G (ins i x l) ∧ w.heap.size ≤ N ∧ Below w.heap.size w w' := by
  obtain ⟨i0, hi0, hz0, hs0, hb0⟩ := info92
  obtain ⟨g', cur, hp, hr, hcs, hlc, hcm, hcell⟩ := h.some (by omega)
  obtain rfl : g = g' := by injection hp with hp; injection hp
  have hil := ins_len (x := x) (Nat.le_of_lt hi)
  have hcl : c = l.length := by omega
  subst hcl
  have hold : (Builtin.firstCells i0.size i (.slice (some ⟨g, 0, none⟩) i l.length)).run Try.prog w.drew = .ok ((pvs l).take i).toArray w.drew := by
    rw [hs0]
    refine run_firstCells_some w.drew 1 i ⟨g, 0, none⟩ i l.length ((pvs l).take i) (by rw [List.length_take, pvs_len]; omega) (fun j v hj => ?_)
    have hj2 : j < i := by have := (List.getElem?_eq_some_iff.1 hj).1; rw [List.length_take] at this; omega
    rw [Addr.add_lit]
    have : w.cell? ⟨g, 0 + j, none⟩ = some v := by
      rw [Nat.zero_add, row_cell hr, hcell j (by omega)]
      rw [List.getElem?_take, if_pos hj2] at hj
      simp only [pvs, List.getElem?_map] at hj
      rw [List.getElem?_eq_getElem (by omega)] at hj
      exact hj
    exact this
  obtain ⟨G, hG⟩ : ∃ G, grownCap w (l.length + 1) l.length 100 = G := ⟨_, rfl⟩
  obtain ⟨ROW, hROW⟩ : ∃ ROW : Array Value, ((pvs l).take i).toArray ++ Builtin.zeroCells (Value.pointer none).cells (l.length + 1 - i) ++ Builtin.zeroCells (Value.pointer none).cells (G - (l.length + 1)) = ROW := ⟨_, rfl⟩
  have hkk : (l.length : Int) + 1 - (i : Int) = ((l.length + 1 - i : Nat) : Int) := by omega
  have hik : i + (l.length + 1 - i) = l.length + 1 := by omega
  obtain ⟨W1, hW1⟩ : ∃ W1, w.drew.alloc (.cells ROW 100) = W1 := ⟨_, rfl⟩
  have hap : ∀ ty, (Builtin.append_ #[96, 3] ty #[.slice (some ⟨g, 0, none⟩) i l.length, .int .i64 ((l.length : Int) + 1 - (i : Int))]).run Try.prog w = .ok (.slice (some ⟨w.heap.size, 0, none⟩) (l.length + 1) G) W1 := fun ty => by
    have h := Lib.run_append_grow_zeros w 96 3 ty 100 i0 _ .i64 .i64 Try.underlying96 Try.underlying3 hi0 hz0 (some ⟨g, 0, none⟩) i l.length ((pvs l).take i) hold (l.length + 1 - i) (by omega) (by omega) (by omega) (by omega) (by rw [hb0]; omega) (by rw [hb0, hik]; exact growslice_fits hnr (by omega))
    rw [hik] at h
    rw [hkk, h, ← hW1, ← hROW, ← hG]
  have hG1 : l.length + 1 ≤ G := by rw [← hG]; exact grownCap_ge w _ _ _
  have hG2 : G ≤ maxLen := by rw [← hG]; exact grownCap_le_maxLen w (l.length + 1) l.length 100 (by unfold maxLen; omega)
  have hsz : ROW.size = G := by
    rw [← hROW]
    simp [Builtin.zeroCells, Value.cells, pvs_len]
    omega
  have hb1 : Below w.heap.size w W1 := by rw [← hW1]; exact btr (bdrew1 w) (ball w.drew _)
  have hN : W1.heap[w.heap.size]? = some (.cells ROW 100 (0, 0)) := by rw [← hW1]; exact World.alloc_heap_new w.drew _
  obtain ⟨R1, hR1⟩ : ∃ R1, (ROW.toList.take i ++ [pv x.1] ++ ROW.toList.drop (i + [pv x.1].length)).toArray = R1 := ⟨_, rfl⟩
  have hs1 : R1.size = G := by rw [← hR1]; simp; omega
  have hcp1 : ∀ ty dc, (Builtin.copy_ #[96, 95] ty #[.slice (some ⟨w.heap.size, i, none⟩) (l.length + 1 - i) dc, .slice (some ⟨vb, 0, none⟩) 1 1]).run Try.prog W1 = .ok (goInt ([pv x.1] : List Value).length) (W1.setRow w.heap.size R1) := fun ty dc => by
    rw [← hR1]
    refine run_copy_row Try.prog W1 96 95 ty 100 w.heap.size i (l.length + 1 - i) dc ⟨vb, 0, none⟩ 1 1 ROW 100 [pv x.1] Try.underlying96 size92 hN (by simp only [Nat.min_def]; split <;> simp <;> omega) (fun j v hj => ?_) (by simp; omega) (fun v hv => by simp at hv; subst hv; rfl)
    obtain rfl : j = 0 := by have := (List.getElem?_eq_some_iff.1 hj).1; simp at this; omega
    rw [Addr.add_lit]
    have := row_cell (row_on hv hb1) 0
    simp only [List.getElem?_toArray] at this
    rw [hj] at this
    exact this
  obtain ⟨W2, hW2⟩ : ∃ W2, W1.setRow w.heap.size R1 = W2 := ⟨_, rfl⟩
  have hN2 : W2.heap[w.heap.size]? = some (.cells R1 100 (0, 0)) := by rw [← hW2]; exact setRow_heap W1 w.heap.size ROW R1 100 (0, 0) hN
  have hb2 : Below w.heap.size w W2 := by
    rw [← hW2]
    exact hb1.trans ((setRow_kp W1 w.heap.size R1).below hb1.size (fun b hb e => by omega))
  have hdl : ((pvs l).drop i).length = l.length - i := by rw [List.length_drop, pvs_len]
  obtain ⟨R2, hR2⟩ : ∃ R2, (R1.toList.take (i + 1) ++ (pvs l).drop i ++ R1.toList.drop (i + 1 + ((pvs l).drop i).length)).toArray = R2 := ⟨_, rfl⟩
  have hs2 : R2.size = G := by rw [← hR2]; simp [hdl]; omega
  have hcp2 : ∀ ty dc sc, (Builtin.copy_ #[96, 96] ty #[.slice (some ⟨w.heap.size, i + 1, none⟩) (l.length + 1 - (i + 1)) dc, .slice (some ⟨g, i, none⟩) (l.length - i) sc]).run Try.prog W2.drew = .ok (goInt ((pvs l).drop i).length) (W2.drew.setRow w.heap.size R2) := fun ty dc sc => by
    rw [← hR2]
    refine run_copy_row Try.prog W2.drew 96 96 ty 100 w.heap.size (i + 1) (l.length + 1 - (i + 1)) dc ⟨g, i, none⟩ (l.length - i) sc R1 100 ((pvs l).drop i) Try.underlying96 size92 hN2 (by rw [hdl]; simp only [Nat.min_def]; split <;> omega) (fun j v hj => ?_) (by rw [hdl]; omega) (fun v hv => pvs_one l v (List.mem_of_mem_drop hv))
    rw [Addr.add_lit]
    have hj2 : j < ((pvs l).drop i).length := (List.getElem?_eq_some_iff.1 hj).1
    have : W2.cell? ⟨g, i + j, none⟩ = some v := by
      rw [row_cell (row_on hr hb2), hcell (i + j) (by omega)]
      rw [List.getElem?_drop] at hj
      simp only [pvs, List.getElem?_map] at hj
      rw [List.getElem?_eq_getElem (by omega)] at hj
      exact hj
    exact this
  have HFIN := hid (show ∃ N G', Ending.returned (.slice (some ⟨w.heap.size, 0, none⟩) (l.length + 1) G) = .returned (.slice (some ⟨N, 0, none⟩) (ins i x l).length G') ∧ Li (W2.drew.setRow w.heap.size R2) (some ⟨N, 0, none⟩) G' (ins i x l) ∧ w.heap.size ≤ N ∧ Below w.heap.size w (W2.drew.setRow w.heap.size R2) from by
    have hb3 : Below w.heap.size w (W2.drew.setRow w.heap.size R2) := (hb2.trans ((bdrew1 W2).mono hb2.size)).trans ((setRow_kp W2.drew w.heap.size R2).below hb2.size (fun b hb e => by omega))
    refine ⟨w.heap.size, G, by rw [hil], li_new h hx (fun y hy => ins_mem hy) hb3 (setRow_heap W2.drew w.heap.size R1 R2 100 (0, 0) hN2) (by rw [hil]; exact hG1) hG2 hs2 ?_, Nat.le_refl _, hb3⟩
    rw [hil, pvs_ins, ← hR2, ← hR1]
    exact spliceL (B := (Builtin.zeroCells (Value.pointer none).cells (l.length + 1 - i) ++ Builtin.zeroCells (Value.pointer none).cells (G - (l.length + 1))).toList) (pvs_len l) (Nat.le_of_lt hi) (by simp [Builtin.zeroCells, Value.cells]) (by rw [← hROW]; simp))
  rw [hW2] at hcp1
  have w1 : IntKind.i64.wrap ((i : Int) + 1) = (i : Int) + 1 := by rw [IntKind.wrap_i64]; omega
  have b1 : (0 : Int) ≤ (i : Int) + 1 := by omega
  have t1 : ((i : Int) + 1).toNat = i + 1 := by omega
  have z3 : ((i : Int) == (l.length : Int)) = false := by
    have : (i : Int) ≠ (l.length : Int) := by omega
    simpa using this
  have b2 : ¬ (G = i + 1) := by omega
  have b3 : ¬ (G = i) := by omega
  have b6 : ¬ (l.length = i) := by omega
  have b4 : (i : Int) ≤ (l.length : Int) + 1 := by omega
  have b5 : i ≤ l.length := by omega
  unfold maxLen at hG2
  clear hR1 hR2 hW1 hW2 hN hN2 hcell h hx hr hv hold hROW hG hkk hik hi0 hz0 hb1 hb2 hil
  go_enter Try.func88, Try.ntmps88
  go_wp2_with (at_builtin; refine Lib.wpList_append_run _ rfl _ _ _ _ rfl _ _ rfl rfl _ _ (hap _) ?_)
  go_region_law (refine step_copy_known (by rfl) (.tmp 50) (.tmp 53) 96 96 (by rfl) (.slice (some ⟨w.heap.size, i + 1, none⟩) (l.length + 1 - (i + 1)) (G - (i + 1))) (.slice (some ⟨g, i, none⟩) (l.length - i) (l.length - i)) (by simp [Act.eval, Act.put]) (by simp [Act.eval, Act.put]) (hcp2 _ _ _) ?_)
  go_wp2
  go_ret
  exact HFIN.out
/-- an order is put into a list. -/
theorem insert_any (p : Option Addr) (c : Nat) (l : LO) (i : Nat) (x : Nat × Or) (vb : Nat) (w : World) (h : Li w p c l) (hi : i ≤ l.length) (hn : l.length ≤ 1048576) (hv : w.heap[vb]? = some (.cells #[pv x.1] 100 (0, 0))) (hne : ¬ OfP p vb) (hx : w.heap[x.1]? = some (.cells (orow x.2) 86 (0, 0))) :
    Calls Try.prog 88 #[.slice p l.length c, .int .i64 i, .slice (some ⟨vb, 0, none⟩) 1 1] w fun e w' => ∃ p' c', e = .returned (.slice p' (ins i x l).length c') ∧ Li w' p' c' (ins i x l) ∧ (∀ g, OfP p' g → OfP p g ∨ w.heap.size ≤ g) ∧ Kp (OfP p) w w' := by
  by_cases he : i = l.length
  · subst he; exact insert_end p c l x vb w h hn hv hx
  · have hlt : i < l.length := by omega
    obtain ⟨g, cur, rfl, hr, hcs, hlc, hcm, hcell⟩ := h.some (by omega)
    by_cases hroom : l.length + 1 ≤ c
    · refine (insert_shift g c l i x vb w h hlt hroom hn hv (fun e => hne (by rw [e]; exact OfP.mk g)) hx).mono ?_
      rintro e w' ⟨rfl, h1, h2⟩
      exact ⟨_, _, rfl, h1, fun b hb => .inl hb, h2.mono (fun b _ e => by rw [e]; exact OfP.mk g)⟩
    · refine (insert_grow g c l i x vb w h hlt (by omega) hn hv hx).mono ?_
      rintro e w' ⟨N, G, rfl, h1, h2, h3⟩
      exact ⟨_, _, rfl, h1, fun b hb => .inr (by rw [hb.eq]; exact h2), Kp.of _ h3⟩
end Go.Proofs.Ytojmcfkbekodpaa
