/-
  A level is put among others.
-/
import Derived.Test.YtojmcfkbekodpaaPr
import Derived.Deep.RegionLaw
import Derived.Lib.AppendZerosOnto
import Derived.Lib.Overlaps
import Derived.Laws.Externs
import Derived.Laws.CopyRow
import Derived.Deep.AppendSrc
import Derived.Laws.NewBlocks
namespace Go.Proofs.Ytojmcfkbekodpaa.Fd
open Go.RowKit Go.Deep Go.Shelf
set_option linter.unusedVariables false
set_option linter.unusedSimpArgs false
set_option maxHeartbeats 4000000
set_option maxRecDepth 100000
section
variable {P : Program}
/-- rows are copied. -/
theorem run_copy_rows (w : World) (dT sT ty elem : TypeId) (g o dLen dCap : Nat) (a : Addr) (sLen sCap : Nat) (cur : Array Value) (t : TypeId) (cs : List Value) (sz : Nat)
    (hu : P.underlying dT = some (.slice elem)) (hs : (P.info? elem).map (·.size) = some sz)
    (hg : w.heap[g]? = some (.cells cur t (0, 0))) (hn : cs.length = Nat.min sLen dLen * sz)
    (hsrc : ∀ j v, cs[j]? = some v → w.cell? (a.add j) = some v) (hfit : o + cs.length ≤ cur.size) (h1 : ∀ v ∈ cs, v.oneCell' = true) :
    (Builtin.copy_ #[dT, sT] ty #[.slice (some ⟨g, o, none⟩) dLen dCap, .slice (some a) sLen sCap]).run P w =
      .ok (goInt (Nat.min sLen dLen)) (w.setRow g (cur.toList.take o ++ cs ++ cur.toList.drop (o + cs.length)).toArray) := by
  have hl := run_firstCells_some (P := P) w sz (Nat.min sLen dLen) a sLen sCap cs hn hsrc
  have hst := run_storeCells_at P g o t cs 0 cur w hg (by simpa using hfit) h1
  cases hq : P.info? elem with
  | none => simp [hq] at hs
  | some i =>
    have hi : i.size = sz := by simpa [hq] using hs
    simp [Builtin.copy_, run_underlying hu, Builtin.lenOf, sizeOf, typeInfo, hq, hi, hl, hst]
theorem run_append_tx (w : World) (t tx ty e e' : TypeId) (ht : P.underlying t = some (.slice e)) (hx : P.underlying tx = some (.slice e')) (sb : Option Addr) (sn sc : Nat) (a : Option Addr) (m c : Nat) :
    (Builtin.append_ #[t, tx] ty #[.slice sb sn sc, .slice a m c]).run P w = (Builtin.append_ #[t, t] ty #[.slice sb sn sc, .slice a m c]).run P w := by
  simp only [Builtin.append_, run_underlying ht, run_underlying hx, Sem.run_bind, Result.andThen_ok, List.getElem?_toArray, List.getElem?_cons_zero, List.getElem?_cons_succ]
/-- a copy whose run is known, in a region that draws its order. -/
theorem step_copy_known {ops : Array Oper} {o : Oper} {a : Act} {w : World} {K : Act → World → Prop} {Q : Exit → Act → World → Prop} {E : Prop} (hg : o.guard = none) (d x : Operand) (dT sT : TypeId)
    (ho : o.op = .call { callee := .builtin .copy, args := #[d, x], argTypes := #[dT, sT] }) (v u : Value) (hd : a.eval d = v) (hx : a.eval x = u) {v' : Value} {w' : World} (hr : (Builtin.copy_ #[dT, sT] o.type #[v, u]).run P w = .ok v' w') (hK : K (a.put o.dst v') w') :
    if Region.wanted o (yielded ops a.tmps) = true then Oper.wp P o a w K Q else E := by
  rw [if_pos (by simp [Region.wanted, hg])]
  unfold Oper.wp
  simp [execOp, ho, resolve, invoke, builtin, hd, hx, hr, Result.andThen]
  exact hK
end
/-- a level's row. -/
def lrow (x : Lv) : Array Value := #[.int .i64 x.pr, .int .u64 x.qt, .int .i64 x.ct]
theorem lrow_one (x : Lv) : ∀ u ∈ (lrow x).toList, u.oneCell' = true := by intro u hu; simp [lrow] at hu; rcases hu with rfl | rfl | rfl <;> rfl
def ins (i : Nat) (x : Lv) (l : List Lv) : List Lv := l.take i ++ x :: l.drop i
theorem ins_len {i : Nat} {x : Lv} {l : List Lv} (h : i ≤ l.length) : (ins i x l).length = l.length + 1 := by simp [ins]; omega
theorem lvT (l : List Lv) (n : Nat) : (lvc l).take (n * 3) = lvc (l.take n) := (lvc_take l n).symm
theorem lvDr (l : List Lv) (n : Nat) : (lvc l).drop (n * 3) = lvc (l.drop n) := (lvc_drop l n).symm
theorem Lo.atL {w : World} {p : Option Addr} {c : Nat} {l : List Lv} (h : Lo 0 w p c l) (hl : 0 < l.length) : ∃ g cur, p = some ⟨g, 0, none⟩ ∧ w.heap[g]? = some (.cells cur 71 (0, 0)) ∧ cur.size = c * 3 ∧ l.length ≤ c ∧ c ≤ maxLen ∧ cur.toList.take (l.length * 3) = lvc l := by
  obtain ⟨h0, ⟨e1, e2⟩ | ⟨g', c', cur, e1, r1, r2, r3, r4, r5, r6⟩⟩ := h
  · obtain ⟨_, e3, _⟩ := Value.slice.inj e1
    omega
  · obtain ⟨rfl, _, rfl⟩ := Value.slice.inj e1
    exact ⟨g', cur, rfl, r2, r5, r3, r4, r6⟩
theorem lvc_ins (i : Nat) (x : Lv) (l : List Lv) : lvc (ins i x l) = (lvc l).take (i * 3) ++ ((lrow x).toList ++ (lvc l).drop (i * 3)) := by
  rw [lvT, lvDr]
  unfold ins
  rw [lvc_app, lvc_cons]
  rfl
theorem lrow_size (x : Lv) : (lrow x).size = 3 := rfl
theorem lrow_len (x : Lv) : (lrow x).toList.length = 3 := rfl
theorem lo_mk {w : World} {g c : Nat} {cur : Array Value} {l : List Lv} (hr : w.heap[g]? = some (.cells cur 71 (0, 0))) (hn : l.length ≤ c) (hc : c ≤ maxLen) (hs : cur.size = c * 3) (ht : cur.toList.take (l.length * 3) = lvc l) : Lo 0 w (some ⟨g, 0, none⟩) c l :=
  ⟨lvc_len l, .inr ⟨g, c, cur, rfl, Nat.zero_le _, hr, hn, hc, hs, ht⟩⟩
theorem sizeL : (Try.prog.info? 71).map (·.size) = some 3 := by kernel_rfl
theorem shiftL {A P V : List Value} {a n : Nat} (hP : P.length = n) (hi : a ≤ n) (hA : A.take n = P) (hl : n + V.length ≤ A.length) :
    (((A.take (a + V.length) ++ P.drop a ++ A.drop (a + V.length + (P.drop a).length)).take a ++ V ++ (A.take (a + V.length) ++ P.drop a ++ A.drop (a + V.length + (P.drop a).length)).drop (a + V.length))).take (n + V.length) = P.take a ++ (V ++ P.drop a) := by
  have e0 : (A.take (a + V.length)).length = a + V.length := by rw [List.length_take]; omega
  have e1 : (A.take (a + V.length) ++ P.drop a ++ A.drop (a + V.length + (P.drop a).length)).take a = P.take a := by
    rw [List.append_assoc, List.take_append_of_le_length (by omega), List.take_take, ← hA, List.take_take]
    congr 1; omega
  have e2 : (A.take (a + V.length) ++ P.drop a ++ A.drop (a + V.length + (P.drop a).length)).drop (a + V.length) = P.drop a ++ A.drop (a + V.length + (P.drop a).length) := by
    rw [List.append_assoc, List.drop_append_of_le_length (by omega), List.drop_of_length_le (by omega), List.nil_append]
  rw [e1, e2]
  have e3 : P.take a ++ V ++ (P.drop a ++ A.drop (a + V.length + (P.drop a).length)) = (P.take a ++ (V ++ P.drop a)) ++ A.drop (a + V.length + (P.drop a).length) := by simp
  rw [e3, List.take_append_of_le_length (by simp; omega), List.take_of_length_le (by simp; omega)]
theorem spliceL {A B P V : List Value} {a n : Nat} (hP : P.length = n) (hi : a ≤ n) (hB : n + V.length - a ≤ B.length) (hA : A = P.take a ++ B) :
    (((A.take a ++ V ++ A.drop (a + V.length)).take (a + V.length) ++ P.drop a ++ (A.take a ++ V ++ A.drop (a + V.length)).drop (a + V.length + (P.drop a).length))).take (n + V.length) = P.take a ++ (V ++ P.drop a) := by
  have e0 : (P.take a).length = a := by rw [List.length_take]; omega
  have e1 : A.take a = P.take a := by rw [hA, List.take_append_of_le_length (by omega), List.take_of_length_le (by omega)]
  have e2 : (A.take a ++ V ++ A.drop (a + V.length)).take (a + V.length) = P.take a ++ V := by
    rw [e1, List.take_append_of_le_length (by simp; omega), List.take_of_length_le (by simp; omega)]
  rw [e2, List.take_append_of_le_length (by simp; omega), List.take_of_length_le (by simp; omega)]
  simp
theorem apart (vb g o lb cb : Nat) (cur vc : Array Value) (w : World) (hv : w.heap[vb]? = some (.cells vc 71 (0, 0))) (hg : w.heap[g]? = some (.cells cur 71 (0, 0))) (hne : vb ≠ g) (hc : cur.size ≠ 0) :
    (callFunc 90 #[.slice (some ⟨vb, 0, none⟩) 1 1, .slice (some ⟨g, o, none⟩) lb cb]).run Try.prog w = .ok (.value (.bool false)) w := by
  have h1 : w.shape? vb = some (71, vc.size) := by simp [World.shape?, hv]
  have h2 : w.shape? g = some (71, cur.size) := by simp [World.shape?, hg]
  rw [run_callFunc_extern Try.func90 (by kernel_rfl) (by kernel_rfl) (by kernel_rfl) (e := Extern.SlicesOverlaps.overlaps #[42, 42] #[4]) (by kernel_rfl),
    Lib.run_overlaps_apart w 42 4 71 Try.underlying42 3 Try.sizeOf71 ⟨vb, 0, none⟩ ⟨g, o, none⟩ 1 1 lb cb hne 71 71 vc.size cur.size h1 h2 hc (row_frz hv 0) (row_frz hv _)]
  rfl
theorem get_lvc {w : World} {g : Nat} {cur : Array Value} {l : List Lv} (hr : w.heap[g]? = some (.cells cur 71 (0, 0))) (ht : cur.toList.take (l.length * 3) = lvc l) {j : Nat} {v : Value} (hj : (lvc l)[j]? = some v) : w.cell? ⟨g, j, none⟩ = some v := by
  have hl : j < l.length * 3 := by rw [← lvc_len]; exact (List.getElem?_eq_some_iff.1 hj).1
  have := congrArg (fun z => z[j]?) ht
  simp only [List.getElem?_take, hl, if_true, Array.getElem?_toList] at this
  rw [row_cell hr, this, hj]
theorem get_row {w : World} {g : Nat} {x : Lv} (hr : w.heap[g]? = some (.cells #[.int .i64 x.pr, .int .u64 x.qt, .int .i64 x.ct] 71 (0, 0))) {j : Nat} {v : Value} (hj : (lrow x).toList[j]? = some v) : w.cell? ((⟨g, 0, none⟩ : Addr).add j) = some v := by
  rw [Addr.add_lit, Nat.zero_add, row_cell hr]
  show (lrow x)[j]? = some v
  rw [← Array.getElem?_toList]
  exact hj
/-- there is room, ahead of others. -/
theorem insert_shift (g c : Nat) (l : List Lv) (i : Nat) (x : Lv) (vb : Nat) (w : World) (h : Lo 0 w (some ⟨g, 0, none⟩) c l) (hi : i < l.length) (hroom : l.length + 1 ≤ c) (hn : l.length ≤ 262144) (hv : w.heap[vb]? = some (.cells #[.int .i64 x.pr, .int .u64 x.qt, .int .i64 x.ct] 71 (0, 0))) (hne : vb ≠ g) :
    Calls Try.prog 82 #[.slice (some ⟨g, 0, none⟩) l.length c, .int .i64 i, .slice (some ⟨vb, 0, none⟩) 1 1] w fun e w' => e = .returned (.slice (some ⟨g, 0, none⟩) (ins i x l).length c) ∧ Lo 0 w' (some ⟨g, 0, none⟩) c (ins i x l) ∧ Kp (fun b => b = g) w w' := by
  obtain ⟨g', cur, hp, hr, hcs, hlc, hcm, ht⟩ := h.atL (by omega)
  obtain rfl : g = g' := by injection hp with hp; injection hp
  unfold maxLen at hcm
  have hcz : cur.size ≠ 0 := by omega
  have hov : ∀ o lb cb, (callFunc 90 #[.slice (some ⟨vb, 0, none⟩) 1 1, .slice (some ⟨g, o, none⟩) lb cb]).run Try.prog w = .ok (.value (.bool false)) w := fun o lb cb => apart vb g o lb cb cur _ w hv hr hne hcz
  obtain ⟨n, hnn⟩ : ∃ n, l.length = n := ⟨_, rfl⟩
  have HNN := hid hnn
  have hpl := lvc_len l
  rw [hnn] at hpl ht hi hroom hn hlc ⊢
  have hdl : ((lvc l).drop (i * 3)).length = (n - i) * 3 := by rw [List.length_drop, hpl]; omega
  obtain ⟨R1, hR1⟩ : ∃ R1, (cur.toList.take ((i + 1) * 3) ++ (lvc l).drop (i * 3) ++ cur.toList.drop ((i + 1) * 3 + ((lvc l).drop (i * 3)).length)).toArray = R1 := ⟨_, rfl⟩
  have hs1 : R1.size = c * 3 := by rw [← hR1]; simp [hdl]; omega
  have hcp1 : ∀ ty dc sc, (Builtin.copy_ #[42, 42] ty #[.slice (some ⟨g, (i + 1) * 3, none⟩) (n + 1 - (i + 1)) dc, .slice (some ⟨g, i * 3, none⟩) (n + 1 - i) sc]).run Try.prog w.drew = .ok (goInt (Nat.min (n + 1 - i) (n + 1 - (i + 1)))) (w.drew.setRow g R1) := fun ty dc sc => by
    rw [← hR1]
    refine run_copy_rows w.drew 42 42 ty 71 g ((i + 1) * 3) (n + 1 - (i + 1)) dc ⟨g, i * 3, none⟩ (n + 1 - i) sc cur 71 ((lvc l).drop (i * 3)) 3 Try.underlying42 sizeL hr (by rw [hdl]; simp only [Nat.min_def]; split <;> omega) (fun j v hj => ?_) (by rw [hdl]; omega) (fun v hv => lvc_one l v (List.mem_of_mem_drop hv))
    rw [Addr.add_lit]
    rw [List.getElem?_drop] at hj
    exact get_lvc hr (by rw [hnn]; exact ht) hj
  have hg1 : (w.drew.setRow g R1).heap[g]? = some (.cells R1 71 (0, 0)) := setRow_heap w.drew g cur R1 71 (0, 0) hr
  have hv1 : (w.drew.setRow g R1).heap[vb]? = some (.cells #[.int .i64 x.pr, .int .u64 x.qt, .int .i64 x.ct] 71 (0, 0)) := by rw [setRow_other w.drew g vb R1 hne]; exact hv
  obtain ⟨R2, hR2⟩ : ∃ R2, (R1.toList.take (i * 3) ++ (lrow x).toList ++ R1.toList.drop (i * 3 + (lrow x).toList.length)).toArray = R2 := ⟨_, rfl⟩
  have hcp2 : ∀ ty dc, (Builtin.copy_ #[42, 42] ty #[.slice (some ⟨g, i * 3, none⟩) (n + 1 - i) dc, .slice (some ⟨vb, 0, none⟩) 1 1]).run Try.prog (w.drew.setRow g R1) = .ok (goInt (Nat.min 1 (n + 1 - i))) ((w.drew.setRow g R1).setRow g R2) := fun ty dc => by
    rw [← hR2]
    exact run_copy_rows (w.drew.setRow g R1) 42 42 ty 71 g (i * 3) (n + 1 - i) dc ⟨vb, 0, none⟩ 1 1 R1 71 (lrow x).toList 3 Try.underlying42 sizeL hg1 (by rw [lrow_len]; simp only [Nat.min_def]; split <;> omega) (fun j v hj => get_row hv1 hj) (by rw [lrow_len]; omega) (lrow_one x)
  rw [setRow_setRow] at hcp2
  have hil : (ins i x l).length = n + 1 := by rw [ins_len (by omega), hnn]
  have HFIN := hid (show Lo 0 (w.drew.setRow g R2) (some ⟨g, 0, none⟩) c (ins i x l) from by
    have e2 : (w.drew.setRow g R2).heap[g]? = some (.cells R2 71 (0, 0)) := setRow_heap w.drew g cur R2 71 (0, 0) hr
    refine lo_mk e2 (by rw [hil]; exact hroom) (by unfold maxLen; exact hcm) ?_ ?_
    · rw [← hR2]
      simp [lrow_size, lrow_len, hs1]
      omega
    · rw [hil, lvc_ins, ← hR2, ← hR1]
      have := shiftL (A := cur.toList) (P := lvc l) (V := (lrow x).toList) (a := i * 3) (n := n * 3) hpl (by omega) ht (by simp [lrow_size, lrow_len, hcs]; omega)
      rw [lrow_len, show i * 3 + 3 = (i + 1) * 3 by omega, show n * 3 + 3 = (n + 1) * 3 by omega] at this
      rw [lrow_len, show i * 3 + 3 = (i + 1) * 3 by omega]
      exact this)
  have HIL := hid hil
  have w1 : IntKind.i64.wrap ((i : Int) + 1) = (i : Int) + 1 := by rw [IntKind.wrap_i64]; omega
  have b1 : (0 : Int) ≤ (i : Int) + 1 := by omega
  have t1 : ((i : Int) + 1).toNat = i + 1 := by omega
  have z3 : ((i : Int) == (n : Int)) = false := by
    have : ¬ (i : Int) = (n : Int) := by omega
    simpa using this
  have z4 : ¬ ((c : Int) < (n : Int) + 1) := by omega
  have z5 : decide ((c : Int) < (n : Int) + 1) = false := by simpa using z4
  have b2 : ¬ (c = i + 1) := by omega
  have b3 : ¬ (c = i) := by omega
  have b4 : (i : Int) ≤ (n : Int) + 1 := by omega
  have b5 : i ≤ n := by omega
  clear hR1 hR2 hg1 hv1 ht h hr hv hdl z4 hnn hpl hs1 hil
  go_enter Try.func82, Try.ntmps82
  go_wp2_with (simp only [hov])
  go_region_law (refine step_copy_known (by rfl) (.tmp 73) (.tmp 76) 42 42 (by rfl) (.slice (some ⟨g, (i + 1) * 3, none⟩) (n + 1 - (i + 1)) (c - (i + 1))) (.slice (some ⟨g, i * 3, none⟩) (n + 1 - i) (c - i)) (by simp [Act.eval, Act.put]) (by simp [Act.eval, Act.put]) (hcp1 _ _ _) ?_)
  go_wp2
  go_ret
  exact ⟨by rw [HIL.out]; rfl, HFIN.out, (Kp.of _ (bdrew1 w)).trans (setRow_kp _ _ _) (fun _ _ h => h)⟩
theorem insert_grow (g c : Nat) (l : List Lv) (i : Nat) (x : Lv) (vb : Nat) (w : World) (h : Lo 0 w (some ⟨g, 0, none⟩) c l) (hi : i < l.length) (hnr : c < l.length + 1) (hn : l.length ≤ 262144) (hv : w.heap[vb]? = some (.cells #[.int .i64 x.pr, .int .u64 x.qt, .int .i64 x.ct] 71 (0, 0))) :
    Calls Try.prog 82 #[.slice (some ⟨g, 0, none⟩) l.length c, .int .i64 i, .slice (some ⟨vb, 0, none⟩) 1 1] w fun e w' => ∃ N G, e = .returned (.slice (some ⟨N, 0, none⟩) (ins i x l).length G) ∧ Lo 0 w' (some ⟨N, 0, none⟩) G (ins i x l) ∧ w.heap.size ≤ N ∧ Below w.heap.size w w' := by
  obtain ⟨i0, hi0, hz0, hs0, hb0⟩ := info_parts infoL3
  obtain ⟨g', cur, hp, hr, hcs, hlc, hcm, ht⟩ := h.atL (by omega)
  obtain rfl : g = g' := by injection hp with hp; injection hp
  have hcl : c = l.length := by omega
  subst hcl
  obtain ⟨n, hnn⟩ : ∃ n, l.length = n := ⟨_, rfl⟩
  have HNN := hid hnn
  have hpl := lvc_len l
  rw [hnn] at hpl ht hi hnr hn hlc hcs hcm ⊢
  have htl : ((lvc l).take (i * 3)).length = i * 3 := by rw [List.length_take, hpl]; omega
  have hold : (Builtin.firstCells i0.size i (.slice (some ⟨g, 0, none⟩) i n)).run Try.prog w.drew = .ok ((lvc l).take (i * 3)).toArray w.drew := by
    rw [hs0]
    refine run_firstCells_some w.drew 3 i ⟨g, 0, none⟩ i n ((lvc l).take (i * 3)) htl (fun j v hj => ?_)
    have hj2 : j < i * 3 := by have := (List.getElem?_eq_some_iff.1 hj).1; omega
    rw [Addr.add_lit, Nat.zero_add]
    rw [List.getElem?_take, if_pos hj2] at hj
    exact get_lvc hr (by rw [hnn]; exact ht) hj
  obtain ⟨G, hG⟩ : ∃ G, grownCap w (n + 1) n 71 = G := ⟨_, rfl⟩
  obtain ⟨ROW, hROW⟩ : ∃ ROW : Array Value, ((lvc l).take (i * 3)).toArray ++ Builtin.zeroCells (Value.agg #[.int .i64 0, .int .u64 0, .int .i64 0]).cells (n + 1 - i) ++ Builtin.zeroCells (Value.agg #[.int .i64 0, .int .u64 0, .int .i64 0]).cells (G - (n + 1)) = ROW := ⟨_, rfl⟩
  have hkk : (n : Int) + 1 - (i : Int) = ((n + 1 - i : Nat) : Int) := by omega
  have hik : i + (n + 1 - i) = n + 1 := by omega
  obtain ⟨W1, hW1⟩ : ∃ W1, w.drew.alloc (.cells ROW 71) = W1 := ⟨_, rfl⟩
  have hap : ∀ ty, (Builtin.append_ #[42, 3] ty #[.slice (some ⟨g, 0, none⟩) i n, .int .i64 ((n : Int) + 1 - (i : Int))]).run Try.prog w = .ok (.slice (some ⟨w.heap.size, 0, none⟩) (n + 1) G) W1 := fun ty => by
    have h := Lib.run_append_grow_zeros w 42 3 ty 71 i0 _ .i64 .i64 Try.underlying42 Try.underlying3 hi0 hz0 (some ⟨g, 0, none⟩) i n ((lvc l).take (i * 3)) hold (n + 1 - i) (by omega) (by omega) (by omega) (by omega) (by rw [hb0]; omega) (by rw [hb0, hik]; exact growslice_fits hnr (by omega))
    rw [hik] at h
    rw [hkk, h, ← hW1, ← hROW, ← hG]
  have hG1 : n + 1 ≤ G := by rw [← hG]; exact grownCap_ge w _ _ _
  have hG2 : G ≤ maxLen := by rw [← hG]; exact grownCap_le_maxLen w (n + 1) n 71 (by unfold maxLen; omega)
  have hsz : ROW.size = G * 3 := by
    rw [← hROW]
    simp [Builtin.zeroCells, Value.cells, htl]
    omega
  have hb1 : Below w.heap.size w W1 := by rw [← hW1]; exact btr (bdrew1 w) (ball w.drew _)
  have hN : W1.heap[w.heap.size]? = some (.cells ROW 71 (0, 0)) := by rw [← hW1]; exact World.alloc_heap_new w.drew _
  obtain ⟨R1, hR1⟩ : ∃ R1, (ROW.toList.take (i * 3) ++ (lrow x).toList ++ ROW.toList.drop (i * 3 + (lrow x).toList.length)).toArray = R1 := ⟨_, rfl⟩
  have hs1 : R1.size = G * 3 := by rw [← hR1]; simp [lrow_size, lrow_len]; omega
  have hcp1 : ∀ ty dc, (Builtin.copy_ #[42, 42] ty #[.slice (some ⟨w.heap.size, i * 3, none⟩) (n + 1 - i) dc, .slice (some ⟨vb, 0, none⟩) 1 1]).run Try.prog W1 = .ok (goInt (Nat.min 1 (n + 1 - i))) (W1.setRow w.heap.size R1) := fun ty dc => by
    rw [← hR1]
    exact run_copy_rows W1 42 42 ty 71 w.heap.size (i * 3) (n + 1 - i) dc ⟨vb, 0, none⟩ 1 1 ROW 71 (lrow x).toList 3 Try.underlying42 sizeL hN (by rw [lrow_len]; simp only [Nat.min_def]; split <;> omega) (fun j v hj => get_row (row_on hv hb1) hj) (by rw [lrow_len]; omega) (lrow_one x)
  obtain ⟨W2, hW2⟩ : ∃ W2, W1.setRow w.heap.size R1 = W2 := ⟨_, rfl⟩
  have hN2 : W2.heap[w.heap.size]? = some (.cells R1 71 (0, 0)) := by rw [← hW2]; exact setRow_heap W1 w.heap.size ROW R1 71 (0, 0) hN
  have hb2 : Below w.heap.size w W2 := by
    rw [← hW2]
    exact setRow_below hb1 (Nat.le_refl _)
  have hdl : ((lvc l).drop (i * 3)).length = (n - i) * 3 := by rw [List.length_drop, hpl]; omega
  obtain ⟨R2, hR2⟩ : ∃ R2, (R1.toList.take ((i + 1) * 3) ++ (lvc l).drop (i * 3) ++ R1.toList.drop ((i + 1) * 3 + ((lvc l).drop (i * 3)).length)).toArray = R2 := ⟨_, rfl⟩
  have hs2 : R2.size = G * 3 := by rw [← hR2]; simp [hdl]; omega
  have hcp2 : ∀ ty dc sc, (Builtin.copy_ #[42, 42] ty #[.slice (some ⟨w.heap.size, (i + 1) * 3, none⟩) (n + 1 - (i + 1)) dc, .slice (some ⟨g, i * 3, none⟩) (n - i) sc]).run Try.prog W2.drew = .ok (goInt (Nat.min (n - i) (n + 1 - (i + 1)))) (W2.drew.setRow w.heap.size R2) := fun ty dc sc => by
    rw [← hR2]
    refine run_copy_rows W2.drew 42 42 ty 71 w.heap.size ((i + 1) * 3) (n + 1 - (i + 1)) dc ⟨g, i * 3, none⟩ (n - i) sc R1 71 ((lvc l).drop (i * 3)) 3 Try.underlying42 sizeL hN2 (by rw [hdl]; simp only [Nat.min_def]; split <;> omega) (fun j v hj => ?_) (by rw [hdl]; omega) (fun v hv => lvc_one l v (List.mem_of_mem_drop hv))
    rw [Addr.add_lit]
    rw [List.getElem?_drop] at hj
    exact get_lvc (row_on hr hb2) (by rw [hnn]; exact ht) hj
  have hil : (ins i x l).length = n + 1 := by rw [ins_len (by omega), hnn]
  have HFIN := hid (show ∃ N G', Ending.returned (.slice (some ⟨w.heap.size, 0, none⟩) (n + 1) G) = .returned (.slice (some ⟨N, 0, none⟩) (ins i x l).length G') ∧ Lo 0 (W2.drew.setRow w.heap.size R2) (some ⟨N, 0, none⟩) G' (ins i x l) ∧ w.heap.size ≤ N ∧ Below w.heap.size w (W2.drew.setRow w.heap.size R2) from by
    have hb3 : Below w.heap.size w (W2.drew.setRow w.heap.size R2) := setRow_below (btr hb2 (bdrew1 W2)) (Nat.le_refl _)
    refine ⟨w.heap.size, G, by rw [hil], lo_mk (setRow_heap W2.drew w.heap.size R1 R2 71 (0, 0) hN2) (by rw [hil]; exact hG1) hG2 hs2 ?_, Nat.le_refl _, hb3⟩
    rw [hil, lvc_ins, ← hR2, ← hR1]
    have := spliceL (A := ROW.toList) (B := (Builtin.zeroCells (Value.agg #[.int .i64 0, .int .u64 0, .int .i64 0]).cells (n + 1 - i) ++ Builtin.zeroCells (Value.agg #[.int .i64 0, .int .u64 0, .int .i64 0]).cells (G - (n + 1))).toList) (P := lvc l) (V := (lrow x).toList) (a := i * 3) (n := n * 3) hpl (by omega) (by simp [lrow_size, lrow_len, Builtin.zeroCells, Value.cells]; omega) (by rw [← hROW]; simp)
    rw [lrow_len, show i * 3 + 3 = (i + 1) * 3 by omega, show n * 3 + 3 = (n + 1) * 3 by omega] at this
    rw [lrow_len, show i * 3 + 3 = (i + 1) * 3 by omega]
    exact this)
  rw [hW2] at hcp1
  have w1 : IntKind.i64.wrap ((i : Int) + 1) = (i : Int) + 1 := by rw [IntKind.wrap_i64]; omega
  have b1 : (0 : Int) ≤ (i : Int) + 1 := by omega
  have t1 : ((i : Int) + 1).toNat = i + 1 := by omega
  have z3 : ((i : Int) == (n : Int)) = false := by
    have : (i : Int) ≠ (n : Int) := by omega
    simpa using this
  have b2 : ¬ (G = i + 1) := by omega
  have b3 : ¬ (G = i) := by omega
  have b6 : ¬ (n = i) := by omega
  have b4 : (i : Int) ≤ (n : Int) + 1 := by omega
  have b5 : i ≤ n := by omega
  unfold maxLen at hG2
  clear hR1 hR2 hW1 hW2 hN hN2 ht h hr hv hold hROW hG hkk hik hi0 hz0 hb1 hb2 hil hnn hpl
  go_enter Try.func82, Try.ntmps82
  go_wp2_with (at_builtin; refine Lib.wpList_append_run _ rfl _ _ _ _ rfl _ _ rfl rfl _ _ (hap _) ?_)
  go_region_law (refine step_copy_known (by rfl) (.tmp 50) (.tmp 53) 42 42 (by rfl) (.slice (some ⟨w.heap.size, (i + 1) * 3, none⟩) (n + 1 - (i + 1)) (G - (i + 1))) (.slice (some ⟨g, i * 3, none⟩) (n - i) (n - i)) (by simp [Act.eval, Act.put]) (by simp [Act.eval, Act.put]) (hcp2 _ _ _) ?_)
  go_wp2
  go_ret
  exact HFIN.out
/-- a level is put among others. -/
theorem insert_any (p : Option Addr) (c : Nat) (l : List Lv) (i : Nat) (x : Lv) (vb : Nat) (w : World) (h : Lo 0 w p c l) (hi : i ≤ l.length) (hn : l.length ≤ 262144) (hv : w.heap[vb]? = some (.cells #[.int .i64 x.pr, .int .u64 x.qt, .int .i64 x.ct] 71 (0, 0))) (hne : ¬ OfP p vb) :
    Calls Try.prog 82 #[.slice p l.length c, .int .i64 i, .slice (some ⟨vb, 0, none⟩) 1 1] w fun e w' => ∃ p' c', e = .returned (.slice p' (ins i x l).length c') ∧ Lo 0 w' p' c' (ins i x l) ∧ Kp (fun g => OfP p g) w w' ∧ Fr w.heap.size p p' := by
  by_cases he : i = l.length
  · subst he
    have e : ins l.length x l = l ++ [x] := by simp [ins]
    rw [e]
    refine (insert_end 0 p c vb l x w h hv hn (Nat.zero_le _)).mono ?_
    rintro e w' ⟨q, d, rfl, h1, h2, h3⟩
    exact ⟨q, d, by simp, h1, h2, h3⟩
  · have hlt : i < l.length := by omega
    obtain ⟨g, cur, rfl, _⟩ := h.atL (by omega)
    by_cases hroom : l.length + 1 ≤ c
    · refine (insert_shift g c l i x vb w h hlt hroom hn hv (fun e => hne (by rw [e]; exact OfP.mk g))).mono ?_
      rintro e w' ⟨rfl, h1, h2⟩
      exact ⟨_, _, rfl, h1, h2.mono (fun b _ e => by rw [e]; exact OfP.mk g), Fr.refl _ _⟩
    · refine (insert_grow g c l i x vb w h hlt (by omega) hn hv).mono ?_
      rintro e w' ⟨N, G, rfl, h1, h2, h3⟩
      exact ⟨_, _, rfl, h1, Kp.of _ h3, fun b hb => .inr (by rw [hb.eq]; exact h2)⟩
end Go.Proofs.Ytojmcfkbekodpaa.Fd
