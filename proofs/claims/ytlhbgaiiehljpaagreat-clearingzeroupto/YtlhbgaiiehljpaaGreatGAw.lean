/-
  CnB
-/
import Derived.Test.YtlhbgaiiehljpaaGreatGAt
import Derived.Test.YtlhbgaiiehljpaaGreatLvL
import Derived.Shelf.SlIter.Collect
import Derived.OwnWalk
namespace Go.Proofs.YtlhbgaiiehljpaaGreat.Ac
open Go.RowKit Go.Deep Go.Maps Go.Sort Go.Shelf MonM Go.Proofs.YtlhbgaiiehljpaaGreat
set_option linter.unusedVariables false
set_option linter.unusedSimpArgs false
def ivH (x : Int × Int) : Value := hk x.1 x.2
def hce (x : Int × Int) : List Value := [.int .u32 x.1, .int .u32 x.2]
def hcz (l : List (Int × Int)) : List Value := l.flatMap hce
theorem hcs_snoc (l : List (Int × Int)) (x : Int × Int) : hcz (l ++ [x]) = hcz l ++ hce x := by simp [hcz]
theorem infoHt : (Tryz.prog.info? 79).map (fun i => (i.zero, i.size, i.bytes)) = some (some (.agg #[.int .u32 0, .int .u32 0]), 2, 8) := by kernel_rfl
def UH (x : Int × Int) : Prop := U32 x.1 ∧ U32 x.2
/-- the keys of what f says, each once. -/
structure KsN (f : Ks2) (l : List (Int × Int)) : Prop where
 nd : l.Nodup
 u : ∀ x ∈ l, UH x
 iff : ∀ x, UH x → (x ∈ l ↔ (f x).isSome = true)
theorem wpListIn_store_row {P : Program} {F : Fence} {n : Nat} {ops : Array Oper} {rest : List Oper} {o : Oper} {a : Act} {w : World} {Q : Exit → Act → World → Prop} (hgd : o.guard = none) (ty : TypeId) (x y : Operand) (ho : o.op = .store ty x y)
  (g : Nat) (cells : Array Value) (hx : a.eval x = .pointer (some ⟨g, 0, none⟩)) (hy : a.eval y = .agg cells)
  (t : TypeId) (old : Array Value) (hg : w.heap[g]? = some (.cells old t (0, 0))) (hi : (P.info? ty).map (·.size) = some cells.size)
  (hold : old.size = cells.size) (h1 : cells.all (·.oneCell') = true)
  (h : wpListIn F n P ops Q rest (a.put o.dst undef) (w.setRow g cells)) : wpListIn F n P ops Q (o :: rest) a w := by
 refine wpListIn_plain hgd fun K' hK' => ?_
 unfold Oper.wpIn
 refine ⟨by simp [Oper.about, ho], ?_⟩
 rw [Oper.semAt_plain F _ _ (by rw [ho]; intro c hc'; cases hc')]
 unfold execOp
 simp only [ho, hx, hy, Instr.storeAt, Instr.sureAddr, Sem.run_bind, Sem.run_pure, Result.andThen_ok, run_storeVar_row w g t ty old cells hg hi hold h1]
 exact hK' _ _ h
set_option maxRecDepth 100000 in
set_option maxHeartbeats 2000000 in
/-- the iterator of maps.Keys, whatever is done with each key. -/
theorem kn_walk (F : Fence) (n : Nat) (h41 : F.fn 52) (hro : F.round = none) (hn : 1 ≤ n) (l Bm b nn : Nat) (D0 : DataW Unit) (J : List (Int × Int) → World → Prop)
  (hY : ∀ pre x W, J pre W → pre.length < Maps.size D0 → YieldAt F (n - 1) Tryz.prog l #[ivH x] W fun e W' => e = .returned (.bool true) ∧ J (pre ++ [x]) W' ∧ KeepsWalks W W')
  (W : World) (hJ : AbidesFrom W.heap.size J) (hm : W.cell? ⟨Bm, 0, none⟩ = some (.map (some b))) (hown : W.ownsMap Tryz.prog 79 rd6 b nn D0) (h0 : J [] W) :
  CallsIn F n Tryz.prog 52 #[.func (.yield l) #[] #[], .pointer (some ⟨Bm, 0, none⟩)] W fun e W' => (∃ v, e = .returned v) ∧ ∃ ss : List (Int × Int), ((ss.Nodup ∧ (∀ x ∈ ss, UH x) ∧ ∀ x, UH x → (x ∈ ss ↔ has D0 (kvN.kl x) = true)) ∧ ss.length ≤ Maps.size D0) ∧ J ss W' := by
 refine callsIn_of_wp Tryz.func52 rfl h41 ?_ hro
 simp only [Tryz.ntmps52, List.size_toArray, List.length_cons, List.length_nil, Nat.reduceAdd, Nat.reduceSub, Array.replicate_succ, Array.replicate_zero, List.push_toArray, List.append_toArray, List.nil_append, List.cons_append]
 gi_wp2_with (first
  | (gi_at_range; refine wpListIn_range_own _ rfl _ 74 rfl 79 38 lawH Tryz.underlying74 _ b nn _ rfl hown ?_; intro w0 hrg0 hg0 hs0)
  | gi_in)
 go_frame
 gi_loopw [] (fun wr => ∃ (left : Lit → Bool) (cnt : Nat) (ss : List (Int × Int)), wr.ranges Tryz.prog 79 rd6 b W.heap.size nn D0 left cnt ∧ ss.length + cnt ≤ Maps.size D0 ∧ (∀ kl, left kl = true → has D0 kl = true) ∧ (ss.Nodup ∧ (∀ x ∈ ss, UH x) ∧ ∀ x, UH x → (x ∈ ss ↔ has D0 (kvN.kl x) = true ∧ left (kvN.kl x) = false)) ∧ J ss wr)
  (fun wr => wr.rangeLeft b W.heap.size)
 case atStart =>
  exact ⟨_, _, [], hrg0, by simp, fun kl h => h, ⟨List.nodup_nil, fun x hx => (by cases hx), fun m hm => ⟨fun h => (by cases h), fun h => (by have h1 := h.1; have h2 := h.2; rw [h1] at h2; cases h2)⟩⟩, hJ [] W w0 none h0 hg0 (fun r e => by cases e)⟩
 case round =>
  obtain ⟨left, cnt, ss, hrg, hcz, hLH, hC, hJs⟩ := hrel
  gi_wp2_with (first
   | (gi_at_next; refine wpListIn_next_ranges _ rfl _ rfl 79 lawH rd6 ivH id (fun key kl hk => by obtain ⟨m, i, hm, hi, e⟩ := allH hk; exact ⟨(m, i), e⟩) (fun v _ _ => ⟨v, rfl⟩) b W.heap.size nn _ _ _ rfl hrg ?_ ?_)
   | gi_in)
  ·intro hc0 hl0
   gi_wp2
   go_end0
   exact ⟨⟨_, rfl⟩, ss, ⟨⟨hC.1, hC.2.1, fun m hm => (hC.2.2 m hm).trans ⟨fun h => h.1, fun h => ⟨h, hl0 _⟩⟩⟩, by omega⟩, hJs⟩
  ·intro k1 k2 c kl yd yp w2 cnt2 hkey hlk hv hat hrg2 hlt hg2 hs2 hen
   obtain ⟨x, hx0⟩ : ∃ x : Int × Int, x = (k1, k2) := ⟨_, rfl⟩
   have hkey : keyOf Tryz.prog 79 (ivH x) = some kl := by rw [hx0]; exact hkey
   have hx : UH x ∧ kl = kvN.kl x := by
    obtain ⟨m, i, hm, hi, e⟩ := allH hkey
    have e : hk x.1 x.2 = hk m i := e
    unfold hk at e
    injection e with e
    injection e with e
    simp only [List.cons.injEq, Value.int.injEq, true_and, and_true] at e
    have hux : UH x := ⟨by show (Lit.int .u32 x.1).wf = true; rw [e.1]; exact hm, by show (Lit.int .u32 x.2).wf = true; rw [e.2]; exact hi⟩
    refine ⟨hux, ?_⟩
    have := okN.key x hux
    rw [show kvN.kv x = ivH x from rfl, show kvN.kt = 79 from rfl, hkey] at this
    exact Option.some.inj this
   obtain ⟨hx, rfl⟩ := hx
   have hxs : x ∉ ss := fun e => by
    have := ((hC.2.2 x hx).1 e).2
    rw [hlk] at this
    cases this
   have hC2 : (ss ++ [x]).Nodup ∧ (∀ y ∈ ss ++ [x], UH y) ∧ ∀ y, UH y → (y ∈ ss ++ [x] ↔ has D0 (kvN.kl y) = true ∧ (left (kvN.kl y) && !(kvN.kl y).sameKey (kvN.kl x)) = false) := by
    refine ⟨?_, fun y hy => ?_, fun y hy => ?_⟩
    ·rw [List.nodup_append]
     exact ⟨hC.1, by simp, fun a ha b hb e => by simp at hb; subst hb; subst e; exact hxs ha⟩
    ·rcases List.mem_append.1 hy with hy | hy
     ·exact hC.2.1 y hy
     ·simp at hy; rw [hy]; exact hx
    ·rw [List.mem_append, hC.2.2 y hy]
     by_cases e : y = x
     ·subst e
      rw [WideAt.sameKey_self (okN.law.key (okN.key y hy))]
      simp [hLH _ hlk]
     ·rw [sameKey_ne (okN.ne hy hx e)]
      simp [e]
   have hJ2 : J ss w2 := hJ ss wr w2 (some W.heap.size) hJs hg2 (fun r e => by cases e; exact ⟨Nat.le_refl _, hrg.iter_walk⟩)
   subst hx0
   have hen : (Instr.entry (.pointer (some ⟨W.heap.size, 0, none⟩))).run Tryz.prog w2 = .ok (.tuple #[.agg #[.int .u32 k1, .int .u32 k2], id c]) w2 := hen
   have HZ := hid (World.alloc_heap_new w2 (.cells #[.int .u32 0, .int .u32 0] 79))
   obtain ⟨X, hX⟩ : ∃ X, (w2.alloc (.cells #[.int .u32 0, .int .u32 0] 79)).setRow w2.heap.size #[.int .u32 k1, .int .u32 k2] = X := ⟨_, rfl⟩
   have BX : Below w2.heap.size w2 X := by rw [← hX]; exact setRow_below (ball _ _) (Nat.le_refl _)
   have GX : X.heap[w2.heap.size]? = some (.cells #[.int .u32 k1, .int .u32 k2] 79 (0, 0)) := by rw [← hX]; exact setRow_heap _ _ _ _ 79 (0, 0) HZ.out
   have hgX : w2.grownBy X none := ⟨BX.os, BX.tape, BX.output, BX.size, fun k hk _ => BX.block k hk⟩
   have hkX : KeepsWalks w2 X := KeepsWalks.of_grownBy hgX (fun j o e => by cases e)
   have hJX : J ss X := hJ ss w2 X none hJ2 hgX (fun r e => by cases e)
   obtain ⟨y, hy0⟩ : ∃ y, w2.heap.size = y := ⟨_, rfl⟩
   have g0 := row_cell GX 0
   have g1 := row_cell GX 1
   simp only [List.getElem?_toArray, List.getElem?_cons_succ, List.getElem?_cons_zero] at g0 g1
   rw [hy0] at g0 g1
   have Hy0 := hid hy0
   have HX := hid hX
   obtain ⟨fn, tmps, assign, body, hy, hR⟩ := hY ss (k1, k2) X hJX (by omega)
   simp only [ivH, hk] at hy
   rw [show ivH (k1, k2) = .agg #[.int .u32 k1, .int .u32 k2] from rfl]
   clear hs2 hX hy0 GX
   gi_wp2_with (first | (refine wpListIn_store_row (by rfl) 79 (.tmp 3) (.tmp 9) (by rfl) w2.heap.size #[.int .u32 k1, .int .u32 k2] (by rfl) (by rfl) 79 _ HZ.out infoH2 (by rfl) (by simp [Value.oneCell']) ?_; rw [HX.out, Hy0.out]) | gi_in)
   refine hR.mono ?_
   rintro e W3 ⟨rfl, hJ3, hk3⟩
   gi_wp2
   have hrg3 := hrg2.of_walks (hkX.trans hk3)
   go_roundw
   case rel =>
    exact ⟨_, cnt2, ss ++ [(k1, k2)], hrg3, by simp; omega, fun kl h => hLH kl (by simp at h; exact h.1), hC2, hJ3⟩
   case measure => rw [hrg3.left_eq, hrg.left_eq]; exact hlt
/-- what maps.Keys hands back gives the keys, each once. -/
theorem kn_gives (F : Fence) (n : Nat) (h41 : F.fn 52) (hro : F.round = none) (hn : 1 ≤ n) (Bm b k : Nat) (f : Ks2) (w : World) (hBm : Bm < w.heap.size)
  (hm : w.cell? ⟨Bm, 0, none⟩ = some (.map (some b))) (hown : Mp kvN w b k f) :
  ∃ N, N ≤ k ∧ SeqGives F n Tryz.prog 52 #[.pointer (some ⟨Bm, 0, none⟩)] ivH (fun ss => KsN f ss ∧ ss.length ≤ N) N w := by
 obtain ⟨D, h1, h2, h3⟩ := hown
 refine ⟨Maps.size D, h1.size_le, fun l J W hW hJ hY h0 => ?_⟩
 have hown' : W.ownsMap Tryz.prog 79 rd6 b k D := by
  have hbl := h1.lt
  obtain ⟨es, clock, hb, Ft, hs, hD⟩ := h1
  exact ⟨es, clock, (hW.block b hbl).trans hb, Ft, hs, hD⟩
 refine (kn_walk F n h41 hro hn l Bm b k D J hY W hJ ((hW.cell (p := ⟨Bm, 0, none⟩) hBm).trans hm) hown' h0).mono ?_
 rintro e W' ⟨hv, ss, ⟨⟨a1, a2, a3⟩, a4⟩, a5⟩
 exact ⟨hv, ss, ⟨⟨a1, a2, fun x hx => (a3 x hx).trans (by rw [show has D (kvN.kl x) = (f x).isSome from h2 x hx])⟩, a4⟩, a5⟩
end Go.Proofs.YtlhbgaiiehljpaaGreat.Ac
namespace Go.Proofs.YtlhbgaiiehljpaaGreat.Ac
open Go.RowKit Go.Deep Go.Maps Go.Sort Go.Shelf MonM Go.Proofs.YtlhbgaiiehljpaaGreat
set_option linter.unusedVariables false
set_option linter.unusedSimpArgs false
def hpAssign : Code := Code.region 2 #[{ dst := some 5, op := Op.alloc 79, type := 0, pos := "iter.go:51", after := #[], guard := none }, { dst := none, op := Op.store 79 (Operand.tmp 5) (Operand.tmp 7), type := 0, pos := "iter.go:51", after := #[{ on := 0, ground := Ground.data }, { on := 0, ground := Ground.phase }], guard := none }] false
def hpBody : Code := Code.block 1 (Code.region 3 #[{ dst := some 8, op := Op.load 76 (Operand.tmp 2), type := 76, pos := "iter.go:52", after := #[], guard := none }, { dst := some 9, op := Op.load 79 (Operand.tmp 5), type := 79, pos := "iter.go:52", after := #[], guard := none }, { dst := some 10, op := Op.buildSlice 76 1 #[(0, Operand.tmp 9)], type := 76, pos := "iter.go:52", after := #[{ on := 1, ground := Ground.data }], guard := none }, { dst := some 11, op := Op.call { callee := Callee.builtin Builtin.append, args := #[Operand.tmp 8, Operand.tmp 10], argTypes := #[76, 76] }, type := 76, pos := "iter.go:52", after := #[{ on := 0, ground := Ground.data }, { on := 2, ground := Ground.data }], guard := none }, { dst := none, op := Op.store 76 (Operand.tmp 2) (Operand.tmp 11), type := 0, pos := "iter.go:52", after := #[{ on := 3, ground := Ground.data }, { on := 3, ground := Ground.chain }, { on := 0, ground := Ground.phase }, { on := 1, ground := Ground.phase }, { on := 2, ground := Ground.phase }, { on := 3, ground := Ground.phase }], guard := none }] false)
/-- the loop's record. -/
def hpRec (fn : FuncId) (sv : Value) (Bs D : Nat) (st : LoopState) (pend : Option Code) : Loop :=
  { state := st, pending := pend, fn, tmps := #[.slice none 0 0, sv, .pointer (some ⟨Bs, 0, none⟩), undef, .slice none 0 0, undef, sv, undef, undef, undef, undef, undef, undef], params := #[7], assign := hpAssign, body := hpBody, defers := D }
/-- between two rounds of the loop. -/
structure HpAt (w0 : World) (fn : FuncId) (sv : Value) (Bs l D : Nat) (ss : List (Int × Int)) (W : World) : Prop where
  box : ∃ v, W.heap[Bs]? = some (.cells #[v] 76 (0, 0)) ∧ W.ownsRow w0.heap.size 79 2 v ss.length (hcz ss)
  L : W.heap[l]? = some (.loop (hpRec fn sv Bs D .ready none))
  K : W.heap[D]? = some (.deferred (some []))
  below : Below w0.heap.size w0 W
theorem hp_abides (w0 : World) (fn : FuncId) (sv : Value) (Bs l D B : Nat) (hB : w0.heap.size ≤ B) : AbidesFrom B (HpAt w0 fn sv Bs l D) := fun s W W' row h hg hrow => by
  have hrow' : ∀ r, row = some r → ∃ o : Obj, W.heap[r]? = some o ∧ o.isWalk = true := fun r e => (hrow r e).2
  obtain ⟨v, hv, hr⟩ := h.box
  exact ⟨⟨v, (grownBy_keeps hg hrow' hv rfl).trans hv, ownsRow_abides_a hr hg hrow'⟩, (grownBy_keeps hg hrow' h.L rfl).trans h.L, (grownBy_keeps hg hrow' h.K rfl).trans h.K, h.below.grown hg h.below.size (fun k e => Nat.le_trans hB (hrow k e).1)⟩
theorem ne70 {cur cur' : Array Value} {z z' : Nat × Nat} : Obj.cells cur 76 z ≠ .cells cur' 79 z' := fun e => by
  have := (Obj.cells.inj e).2.1
  cases this
set_option maxRecDepth 100000 in
set_option maxHeartbeats 2000000 in
theorem hp_yield (F : Fence) (m : Nat) (w0 : World) (fn : FuncId) (hfn : F.fn fn) (sv : Value) (Bs l D : Nat) (hBl : Bs ≠ l) (hDl : D ≠ l) (hDB : D ≠ Bs) (h0B : w0.heap.size ≤ Bs) (h0l : w0.heap.size ≤ l)
    (N : Nat) (hN : N ≤ 1000000000000) (ss : List (Int × Int)) (x : Int × Int) (W : World) (h : HpAt w0 fn sv Bs l D ss W) (hlen : ss.length < N) :
    YieldAt F m Tryz.prog l #[ivH x] W fun e W' => e = .returned (.bool true) ∧ HpAt w0 fn sv Bs l D (ss ++ [x]) W' ∧ KeepsWalks W W' := by
  obtain ⟨i0, hi, hz0, hz1, hz2⟩ := info_parts infoHt
  obtain ⟨k1, k2⟩ := x
  refine ⟨fn, #[.slice none 0 0, sv, .pointer (some ⟨Bs, 0, none⟩), undef, .slice none 0 0, undef, sv, ivH (k1, k2), undef, undef, undef, undef, undef], hpAssign, hpBody, by simpa [hpRec] using run_yield (P := Tryz.prog) (args := #[ivH (k1, k2)]) h.L rfl, roundIn_of_wpIn hfn ?_⟩
  obtain ⟨W1, hW1⟩ : ∃ W1, W.alloc (.cells #[.int .u32 k1, .int .u32 k2] 79) = W1 := ⟨_, rfl⟩
  obtain ⟨y, hy0⟩ : ∃ y, W.heap.size = y := ⟨_, rfl⟩
  have hly : l < y := by rw [← hy0]; exact (Array.getElem?_eq_some_iff.1 h.L).1
  have GX : W1.heap[y]? = some (.cells #[.int .u32 k1, .int .u32 k2] 79 (0, 0)) := by rw [← hW1, ← hy0]; exact World.alloc_heap_new _ _
  have h1 : HpAt w0 fn sv Bs l D ss W1 := by rw [← hW1]; exact hp_abides w0 fn sv Bs l D w0.heap.size (Nat.le_refl _) ss W _ none h (World.grownBy_alloc W _ none) (fun r e => by cases e)
  have hk1 : KeepsWalks W W1 := by rw [← hW1]; exact KeepsWalks.alloc _ _
  have Hy0 := hid hy0
  have HW1 := hid hW1
  clear hW1 hy0 h
  obtain ⟨v, hv, hrow⟩ := h1.box
  have hl : l < W1.heap.size := (Array.getElem?_eq_some_iff.1 h1.L).1
  have hbr := run_beginRound (P := Tryz.prog) h1.L rfl
  obtain ⟨W2, hW2⟩ : ∃ W2, W1.putObj l (.loop { hpRec fn sv Bs D .ready none with state := .busy }) = W2 := ⟨_, rfl⟩
  rw [hW2] at hbr
  have hg2 : W1.grownBy W2 (some l) := by rw [← hW2]; exact grownBy_putObj_a _ _ _
  have hk2 : KeepsWalks W W2 := by rw [← hW2]; exact hk1.trans (KeepsWalks.putObj _ h1.L rfl)
  have hv2 : W2.heap[Bs]? = some (.cells #[v] 76 (0, 0)) := by rw [← hW2]; exact (World.putObj_heap_other hBl).trans hv
  have hK2 : W2.heap[D]? = some (.deferred (some [])) := by rw [← hW2]; exact (World.putObj_heap_other hDl).trans h1.K
  have hL2 : W2.heap[l]? = some (.loop { hpRec fn sv Bs D .ready none with state := .busy }) := by rw [← hW2]; exact World.putObj_heap_same hl
  have hrow2 : W2.ownsRow w0.heap.size 79 2 v ss.length (hcz ss) := hrow.kept hg2 (ownsRow_ne_a hrow h1.L (fun cur e => by cases e))
  have hb2 : Below w0.heap.size w0 W2 := h1.below.grown hg2 h1.below.size (fun k e => by cases e; exact h0l)
  obtain ⟨hc2, hf2⟩ := cell_of_box_a hv2
  have hBlt : Bs < W2.heap.size := (Array.getElem?_eq_some_iff.1 hv2).1
  have hl2 : l < W2.heap.size := (Array.getElem?_eq_some_iff.1 hL2).1
  have hDlt : D < W2.heap.size := (Array.getElem?_eq_some_iff.1 hK2).1
  have ne_of : ∀ {j : Nat} {o : Obj}, W2.heap[j]? = some o → (∀ cur, o ≠ .cells cur 79 (0, 0)) → some j ≠ v.ownBlock := fun hj hno => by
    rcases ownsRow_ne_a hrow2 hj hno with e | e
    · rw [e]; simp
    · exact fun e' => e e'.symm
  have GY : W2.heap[y]? = some (.cells #[.int .u32 k1, .int .u32 k2] 79 (0, 0)) := by rw [← hW2]; exact (World.putObj_heap_other (by omega)).trans GX
  have g0 := row_cell GY 0
  have g1 := row_cell GY 1
  simp only [List.getElem?_toArray, List.getElem?_cons_succ, List.getElem?_cons_zero] at g0 g1
  clear hW2
  unfold hpAssign
  rw [show ivH (k1, k2) = .agg #[.int .u32 k1, .int .u32 k2] from rfl]
  gi_wp2_with gi_round_op_a
  rw [HW1.out, Hy0.out]
  refine ⟨W2, hbr, ?_⟩
  unfold hpBody
  gi_wp2_with (first
    | (gi_at_builtin; refine wpListIn_append_own _ rfl _ _ 76 rfl w0.heap.size 79 i0 _ 2 8 Tryz.underlying76 hi hz0 hz1 hz2 rfl (by decide) _ _ _ rfl (hrow2.alloc _) ⟨W2.heap.size, 0, none⟩ 1 1 [.int .u32 k1, .int .u32 k2] rfl rfl (fun j u hu => row_rd (World.alloc_heap_new _ _) hu) (by simp [Value.oneCell']) (by unfold maxLen; omega) (by omega) (by have := hb2.size; simp; omega) ?_; intro v' w3 hown' hg3 hnil3
       have hv3 : w3.heap[Bs]? = some (.cells #[v] 76 (0, 0)) := (hg3.block Bs (by simp; omega) (ne_of hv2 (fun cur e => ne70 e))).trans ((Below.heap_alloc _ _ Bs hBlt).trans hv2)
       obtain ⟨hc3, hf3⟩ := cell_of_box_a hv3
       obtain ⟨g', cap', cur', rfl, hbase', hgb', hr1, hr2, hr3, hr4⟩ : ∃ g' cap' cur', v' = .slice (some ⟨g', 0, none⟩) (ss.length + 1) cap' ∧ w0.heap.size ≤ g' ∧ w3.heap[g']? = some (.cells cur' 79 (0, 0)) ∧ ss.length + 1 ≤ cap' ∧ cap' ≤ maxLen ∧ cur'.size = cap' * 2 ∧ cur'.toList.take ((ss.length + 1) * 2) = hcz ss ++ [.int .u32 k1, .int .u32 k2] := by
         rcases hown'.2 with ⟨_, h0⟩ | h'
         · exact absurd h0 (by omega)
         · exact h'
       go_frame)
    | gi_round_op_a)
  have hg3' : (W2.alloc (.cells #[.int .u32 k1, .int .u32 k2] 79)).grownBy w3 v.ownBlock := hg3
  have hL3 : w3.heap[l]? = some (.loop { hpRec fn sv Bs D .ready none with state := .busy }) := (hg3'.block l (by simp; omega) (ne_of hL2 (fun cur e => by cases e))).trans ((Below.heap_alloc _ _ l hl2).trans hL2)
  have hK3 : w3.heap[D]? = some (.deferred (some [])) := (hg3'.block D (by simp; omega) (ne_of hK2 (fun cur e => by cases e))).trans ((Below.heap_alloc _ _ D hDlt).trans hK2)
  obtain ⟨w4, hw4⟩ : ∃ w4, w3.setCell ⟨Bs, 0, none⟩ (.slice (some ⟨g', 0, none⟩) (ss.length + 1) cap') = w4 := ⟨_, rfl⟩
  rw [hw4]
  have hg4 : w3.grownBy w4 (some Bs) := by rw [← hw4]; exact grownBy_setCell0_a _ _ _
  have hv4 : w4.heap[Bs]? = some (.cells #[.slice (some ⟨g', 0, none⟩) (ss.length + 1) cap'] 76 (0, 0)) := by rw [← hw4]; exact heap_setCell_box_a _ hv3
  have hL4 : w4.heap[l]? = some (.loop { hpRec fn sv Bs D .ready none with state := .busy }) := (hg4.block l (Array.getElem?_eq_some_iff.1 hL3).1 (fun e => hBl (by cases e; rfl))).trans hL3
  have hK4 : w4.heap[D]? = some (.deferred (some [])) := (hg4.block D (Array.getElem?_eq_some_iff.1 hK3).1 (fun e => hDB (by cases e; rfl))).trans hK3
  have hrow4 := hown'.kept hg4 (ownsRow_ne_a hown' hv3 (fun cur e => ne70 e))
  have hl4 : l < w4.heap.size := (Array.getElem?_eq_some_iff.1 hL4).1
  have hb3 : Below w0.heap.size w0 w3 := (hb2.alloc hb2.size _).grown hg3' (by have := hb2.size; simp; omega) (fun k e => (hrow2.lt k e).1)
  have hb4 : Below w0.heap.size w0 w4 := hb3.grown hg4 hb3.size (fun k e => by cases e; exact h0B)
  have hk4 : KeepsWalks W w4 := ((hk2.trans (KeepsWalks.alloc _ _)).trans (KeepsWalks.of_grownBy hg3' (ownsRow_not_walk_a (hrow2.alloc _)))).trans (by rw [← hw4]; exact KeepsWalks.setCell _ _ _)
  clear hw4
  refine ⟨_, _, run_endRound none hL4, rfl, ⟨⟨_, (World.putObj_heap_other hBl).trans hv4, ?_⟩, World.putObj_heap_same hl4, (World.putObj_heap_other hDl).trans hK4, hb4.grown (grownBy_putObj_a _ _ _) hb4.size (fun k e => by cases e; exact h0l)⟩, hk4.trans (KeepsWalks.putObj _ hL4 rfl)⟩
  have := hrow4.kept (grownBy_putObj_a w4 l (.loop { { hpRec fn sv Bs D .ready none with state := .busy } with state := if (none : Option Code).isNone then .ready else .done, pending := none })) (ownsRow_ne_a hrow4 hL4 (fun cur e => by cases e))
  rw [hcs_snoc, List.length_append]
  exact this
set_option maxRecDepth 100000 in
set_option maxHeartbeats 2000000 in
theorem hp_seq (F : Fence) (n : Nat) (h59 : F.fn 75) (hro : F.round = none) (hn : 2 ≤ n) (g : Nat) (lb : Array Value) (hFg : F.fn g) (eg : ∀ args w, (callFunc g args).run Tryz.prog w = .ok (.enter g args) w)
    (S : List (Int × Int) → Prop) (N : Nat) (hN : N ≤ 1000000000000) (w : World) (hseq : SeqGives F (n - 1) Tryz.prog g lb ivH S N w) :
    CallsIn F n Tryz.prog 75 #[.slice none 0 0, .func (.func g) #[] lb] w fun e w' => ∃ (v : Value) (ss : List (Int × Int)), e = .returned v ∧ S ss ∧ w'.ownsRow w.heap.size 79 2 v ss.length (hcz ss) ∧ Below w.heap.size w w' := by
  have h1 : 1 ≤ n := by omega
  refine callsIn_of_wp_marks Tryz.func75 rfl h59 ?_ hro
  simp only [Tryz.ntmps75, List.size_toArray, List.length_cons, List.length_nil, Nat.reduceAdd, Nat.reduceSub, Array.replicate_succ, Array.replicate_zero, List.push_toArray, List.append_toArray, List.nil_append, List.cons_append]
  gi_wp2
  refine wpIn_rangeFunc ?_
  intro fn hfn
  rw [hro]
  obtain ⟨W0, hW0⟩ : ∃ W0, w.alloc (.cells #[.slice none 0 0] 76) = W0 := ⟨_, rfl⟩
  have hs0 : W0.heap.size = w.heap.size + 1 := by rw [← hW0]; simp
  have hv0 : W0.heap[w.heap.size]? = some (.cells #[.slice none 0 0] 76 (0, 0)) := by rw [← hW0]; exact World.alloc_heap_new w _
  have hb0 : Below w.heap.size w W0 := by rw [← hW0]; exact (Below.refl _ w).alloc (Nat.le_refl _) _
  rw [hW0]
  obtain ⟨W1, hW1⟩ : ∃ W1, (W0.alloc (.deferred (some []))).alloc (.loop (hpRec fn (.func (.func g) #[] lb) w.heap.size W0.heap.size .ready none)) = W1 := ⟨_, rfl⟩
  have hold : ∀ k, k < W0.heap.size → W1.heap[k]? = W0.heap[k]? := fun k hk => by
    rw [← hW1]; exact (Below.heap_alloc _ _ k (by simp; omega)).trans (Below.heap_alloc _ _ k hk)
  have hb1 : Below w.heap.size w W1 := by rw [← hW1]; exact (hb0.alloc hb0.size _).alloc (by have := hb0.size; simp; omega) _
  have hM : HpAt w fn (.func (.func g) #[] lb) w.heap.size (W0.heap.size + 1) W0.heap.size [] W1 :=
    ⟨⟨_, (hold w.heap.size (by omega)).trans hv0, ⟨rfl, .inl ⟨rfl, rfl⟩⟩⟩,
     by rw [← hW1]; have := World.alloc_heap_new (W0.alloc (.deferred (some []))) (.loop (hpRec fn (.func (.func g) #[] lb) w.heap.size W0.heap.size .ready none)); rwa [World.size_alloc] at this,
     by rw [← hW1]; exact (Below.heap_alloc _ _ _ (by simp)).trans (World.alloc_heap_new W0 _), hb1⟩
  refine ⟨W0.heap.size + 1, [{ target := .collected W0.heap.size, args := #[] }], W1, { target := .fn (.func g) lb, args := #[.func (.yield (W0.heap.size + 1)) #[] #[]] }, W1, g,
    #[.func (.yield (W0.heap.size + 1)) #[] #[]] ++ lb, W1, ?_, ?_, ?_, ?_, fun _ => h1, ?_⟩
  · rw [← hW1]; exact run_enterLoop_outer _ _ _ _ _
  · simp [resolve, go_sem]
  · intro f' hf'; simp [Target.leads] at hf'; subst hf'; exact hFg
  · simp [invoke, go_sem, eg]
  · refine (hseq (W0.heap.size + 1) (HpAt w fn (.func (.func g) #[] lb) w.heap.size (W0.heap.size + 1) W0.heap.size) W1 hb1 (hp_abides _ _ _ _ _ _ _ hb1.size)
      (fun pre x W hJ hl => hp_yield F (n - 1 - 1) w fn hfn _ w.heap.size (W0.heap.size + 1) W0.heap.size (by omega) (by omega) (by omega) (Nat.le_refl _) (by omega) N hN pre x W hJ hl) hM).mono ?_
    rintro e W2 ⟨⟨v0, rfl⟩, ss, hS, h2⟩
    obtain ⟨v, hv, hrow⟩ := h2.box
    have hend := run_endLoop (P := Tryz.prog) h2.L (by simp [hpRec])
    obtain ⟨W3, hW3⟩ : ∃ W3, W2.putObj (W0.heap.size + 1) (.loop { hpRec fn (.func (.func g) #[] lb) w.heap.size W0.heap.size .ready none with state := .exhausted }) = W3 := ⟨_, rfl⟩
    rw [hW3] at hend
    have hg3 : W2.grownBy W3 (some (W0.heap.size + 1)) := by rw [← hW3]; exact grownBy_putObj_a _ _ _
    have hv3 : W3.heap[w.heap.size]? = some (.cells #[v] 76 (0, 0)) := by rw [← hW3]; exact (World.putObj_heap_other (by omega)).trans hv
    have hK3 : W3.heap[W0.heap.size]? = some (.deferred (some [])) := by rw [← hW3]; exact (World.putObj_heap_other (by omega)).trans h2.K
    have hrow3 := hrow.kept hg3 (ownsRow_ne_a hrow h2.L (fun cur e => by cases e))
    have hb3 : Below w.heap.size w W3 := h2.below.grown hg3 h2.below.size (fun k e => by cases e; omega)
    obtain ⟨hc3, hf3⟩ := cell_of_box_a hv3
    clear hW3
    refine ⟨none, W3, hend, ?_⟩
    gi_wp2
    rw [← hs0]
    refine ⟨by simp, .inl ⟨_, _, rfl, run_takeDeferred hK3, ?_⟩⟩
    exact ⟨_, results_tmp rfl _ _ _, v, ss, rfl, hS, hrow3.kept (grownBy_putObj_a _ _ _) (ownsRow_ne_a hrow3 hK3 (fun cur e => by cases e)), hb3.grown (grownBy_putObj_a _ _ _) hb3.size (fun k e => by cases e; omega)⟩
set_option maxHeartbeats 8000000
set_option maxRecDepth 100000
attribute [local go_sem ↓] Go.wp_at_zero Go.wp_at_succ
theorem hkeys_any (o : Option Nat) (w : World) : Calls Tryz.prog 24 #[.map o] w fun e w' => e = .returned (.func (.func 52) #[] #[.pointer (some ⟨w.heap.size, 0, none⟩)]) ∧ w' = w.alloc (.cells #[.map o] 74) := by
  go_enter Tryz.func24, Tryz.ntmps24
  go_wp2
  go_ret
  exact ⟨rfl, rfl⟩
theorem hcollect_any (lb : Array Value) (S : List (Int × Int) → Prop) (N : Nat) (hN : N ≤ 1000000000000) (w : World) (hseq : SeqGives Fence.wide 1 Tryz.prog 52 lb ivH S N w) :
    Calls Tryz.prog 50 #[.func (.func 52) #[] lb] w fun e w' => ∃ (v : Value) (ss : List (Int × Int)), e = .returned v ∧ S ss ∧ w'.ownsRow w.heap.size 79 2 v ss.length (hcz ss) ∧ Below w.heap.size w w' := by
  have C := hid (callsIn_wide.1 (hp_seq Fence.wide 2 trivial rfl (by decide) 52 lb trivial (enters_of Tryz.func52 (by kernel_rfl) rfl) S N hN w hseq))
  clear hseq
  go_enter Tryz.func50, Tryz.ntmps50
  go_wp2_with (go_at_call 75; with_reducible refine C.out.mono ?_; rintro e w' ⟨v, ss, rfl, h1, h2, h3⟩; have H1 := hid h1; have H2 := hid h2; have H3 := hid h3; clear h1 h2 h3)
  go_ret
  exact ⟨v, ss, rfl, H1.out, H2.out, H3.out⟩
end Go.Proofs.YtlhbgaiiehljpaaGreat.Ac
