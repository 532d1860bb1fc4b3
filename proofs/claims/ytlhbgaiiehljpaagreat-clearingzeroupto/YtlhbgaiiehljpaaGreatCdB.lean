/-
  CdB
-/
import Derived.Test.YtlhbgaiiehljpaaGreatCnH
import Derived.Test.YtlhbgaiiehljpaaGreatGBg
import Derived.Test.YtlhbgaiiehljpaaGreatSsL
import Derived.Shelf.SlIter.Collect
import Derived.OwnWalk
namespace Go.Proofs.YtlhbgaiiehljpaaGreat.Ac
open Go.RowKit Go.Deep Go.Maps Go.Sort Go.Shelf MonM Go.Proofs.YtlhbgaiiehljpaaGreat
set_option linter.unusedVariables false
set_option linter.unusedSimpArgs false
def ivU (x : Int) : Value := .int .u32 x
theorem ivs_snoc (l : List Int) (m : Int) : Sr.ivs (l ++ [m]) = Sr.ivs l ++ [.int .u32 m] := by simp [Sr.ivs]
/-- the keys of what f says, each once. -/
structure Ks (f : Int → Option Int) (l : List Int) : Prop where
  nd : l.Nodup
  u : ∀ x ∈ l, U32 x
  iff : ∀ m, U32 m → (m ∈ l ↔ (f m).isSome = true)
theorem Ks.perm {f : Int → Option Int} {l l' : List Int} (h : Ks f l) (hp : l'.Perm l) : Ks f l' :=
  ⟨hp.nodup_iff.2 h.nd, fun x hx => h.u x (hp.mem_iff.1 hx), fun m hm => (hp.mem_iff).trans (h.iff m hm)⟩
set_option maxRecDepth 100000 in
set_option maxHeartbeats 1000000 in
/-- the iterator of maps.Keys, whatever is done with each key. -/
theorem ky_walk (F : Fence) (n : Nat) (h54 : F.fn 59) (hro : F.round = none) (hn : 1 ≤ n) (l Bm b nn : Nat) (D0 : DataW Unit) (J : List Int → World → Prop)
    (hY : ∀ pre x W, J pre W → pre.length < Maps.size D0 → YieldAt F (n - 1) Tryz.prog l #[ivU x] W fun e W' => e = .returned (.bool true) ∧ J (pre ++ [x]) W' ∧ KeepsWalks W W')
    (W : World) (hJ : AbidesFrom W.heap.size J) (hm : W.cell? ⟨Bm, 0, none⟩ = some (.map (some b))) (hown : W.ownsMap Tryz.prog 36 rd2 b nn D0) (h0 : J [] W) :
    CallsIn F n Tryz.prog 59 #[.func (.yield l) #[] #[], .pointer (some ⟨Bm, 0, none⟩)] W fun e W' => (∃ v, e = .returned v) ∧ ∃ ss : List Int, ((ss.Nodup ∧ (∀ x ∈ ss, U32 x) ∧ ∀ m, U32 m → (m ∈ ss ↔ has D0 (.int .u32 m) = true)) ∧ ss.length ≤ Maps.size D0) ∧ J ss W' := by
  refine callsIn_of_wp Tryz.func59 rfl h54 ?_ hro
  simp only [Tryz.ntmps59, List.size_toArray, List.length_cons, List.length_nil, Nat.reduceAdd, Nat.reduceSub, Array.replicate_succ, Array.replicate_zero, List.push_toArray, List.append_toArray, List.nil_append, List.cons_append]
  gi_wp2_with (first
    | (gi_at_range; refine wpListIn_range_own _ rfl _ 85 rfl 36 33 lawU Tryz.underlying85 _ b nn _ rfl hown ?_; intro w0 hrg0 hg0 hs0)
    | gi_in)
  go_frame
  gi_loopw [3] (fun _ wr => ∃ (left : Lit → Bool) (cnt : Nat) (ss : List Int), wr.ranges Tryz.prog 36 rd2 b W.heap.size nn D0 left cnt ∧ ss.length + cnt ≤ Maps.size D0 ∧ (∀ kl, left kl = true → has D0 kl = true) ∧ (ss.Nodup ∧ (∀ x ∈ ss, U32 x) ∧ ∀ m, U32 m → (m ∈ ss ↔ has D0 (.int .u32 m) = true ∧ left (.int .u32 m) = false)) ∧ J ss wr)
    (fun _ wr => wr.rangeLeft b W.heap.size)
  case atStart =>
    exact ⟨_, _, [], hrg0, by simp, fun kl h => h, ⟨List.nodup_nil, fun x hx => (by cases hx), fun m hm => ⟨fun h => (by cases h), fun h => (by have h1 := h.1; have h2 := h.2; rw [h1] at h2; cases h2)⟩⟩, hJ [] W w0 none h0 hg0 (fun r e => by cases e)⟩
  case round =>
    obtain ⟨left, cnt, ss, hrg, hcz, hLH, hC, hJs⟩ := hrel
    gi_wp2_with (first
      | (gi_at_next; refine wpListIn_next_ranges _ rfl _ rfl 36 lawU rd2 ivU id (fun key kl hk => by obtain ⟨x, hx, _⟩ := Maps.keyOf_int_inv Tryz.underlying36 hk; exact ⟨x, hx⟩) (fun v _ _ => ⟨v, rfl⟩) b W.heap.size nn _ _ _ rfl hrg ?_ ?_)
      | gi_in)
    · intro hc0 hl0
      gi_wp2
      go_end0
      exact ⟨⟨_, rfl⟩, ss, ⟨⟨hC.1, hC.2.1, fun m hm => (hC.2.2 m hm).trans ⟨fun h => h.1, fun h => ⟨h, hl0 _⟩⟩⟩, by omega⟩, hJs⟩
    · intro x c kl yd yp w2 cnt2 hkey hlk hv hat hrg2 hlt hg2 hs2 hen
      have hx : U32 x ∧ kl = .int .u32 x := by
        obtain ⟨x', ex, ek, hw⟩ := Maps.keyOf_int_inv Tryz.underlying36 hkey
        have ex : Value.int .u32 x = .int .u32 x' := ex
        injection ex with _ ex
        rw [ex]
        exact ⟨hw, ek⟩
      obtain ⟨hx, rfl⟩ := hx
      have hxs : x ∉ ss := fun e => by
        have := ((hC.2.2 x hx).1 e).2
        rw [hlk] at this
        cases this
      have hC2 : (ss ++ [x]).Nodup ∧ (∀ y ∈ ss ++ [x], U32 y) ∧ ∀ m, U32 m → (m ∈ ss ++ [x] ↔ has D0 (.int .u32 m) = true ∧ (left (.int .u32 m) && !(Lit.int .u32 m).sameKey (.int .u32 x)) = false) := by
        refine ⟨?_, fun y hy => ?_, fun m hm => ?_⟩
        · rw [List.nodup_append]
          exact ⟨hC.1, by simp, fun a ha b hb e => by simp at hb; subst hb; subst e; exact hxs ha⟩
        · rcases List.mem_append.1 hy with hy | hy
          · exact hC.2.1 y hy
          · simp at hy; rw [hy]; exact hx
        · rw [List.mem_append, hC.2.2 m hm]
          by_cases e : m = x
          · subst e
            rw [show (Lit.int .u32 m).sameKey (.int .u32 m) = true from WideAt.sameKey_self (okU.law.key (okU.key m hm))]
            simp [hLH _ hlk]
          · rw [show (Lit.int .u32 m).sameKey (.int .u32 x) = false from sameKey_ne (okU.ne hm hx e)]
            simp [e]
      have hJ2 : J ss w2 := hJ ss wr w2 (some W.heap.size) hJs hg2 (fun r e => by cases e; exact ⟨Nat.le_refl _, hrg.iter_walk⟩)
      obtain ⟨fn, tmps, assign, body, hy, hR⟩ := hY ss x w2 hJ2 (by omega)
      clear hs2
      gi_wp2
      refine hR.mono ?_
      rintro e W3 ⟨rfl, hJ3, hk3⟩
      gi_wp2
      have hrg3 := hrg2.of_walks hk3
      go_roundw
      case rel =>
        exact ⟨_, cnt2, ss ++ [x], hrg3, by simp; omega, fun kl h => hLH kl (by simp at h; exact h.1), hC2, hJ3⟩
      case measure => rw [hrg3.left_eq, hrg.left_eq]; exact hlt
/-- what maps.Keys hands back gives the keys, each once. -/
theorem ky_gives (F : Fence) (n : Nat) (h54 : F.fn 59) (hro : F.round = none) (hn : 1 ≤ n) (Bm b k : Nat) (f : Int → Option Int) (w : World) (hBm : Bm < w.heap.size)
    (hm : w.cell? ⟨Bm, 0, none⟩ = some (.map (some b))) (hown : Mp kvU w b k f) :
    ∃ N, N ≤ k ∧ SeqGives F n Tryz.prog 59 #[.pointer (some ⟨Bm, 0, none⟩)] ivU (fun ss => Ks f ss ∧ ss.length ≤ N) N w := by
  obtain ⟨D, h1, h2, h3⟩ := hown
  refine ⟨Maps.size D, h1.size_le, fun l J W hW hJ hY h0 => ?_⟩
  have hown' : W.ownsMap Tryz.prog 36 rd2 b k D := by
    have hbl := h1.lt
    obtain ⟨es, clock, hb, Ft, hs, hD⟩ := h1
    exact ⟨es, clock, (hW.block b hbl).trans hb, Ft, hs, hD⟩
  refine (ky_walk F n h54 hro hn l Bm b k D J hY W hJ ((hW.cell (p := ⟨Bm, 0, none⟩) hBm).trans hm) hown' h0).mono ?_
  rintro e W' ⟨hv, ss, ⟨⟨a1, a2, a3⟩, a4⟩, a5⟩
  exact ⟨hv, ss, ⟨⟨a1, a2, fun m hm => (a3 m hm).trans (by rw [show has D (.int .u32 m) = (f m).isSome from h2 m hm])⟩, a4⟩, a5⟩
def apAssign : Code := Code.region 2 #[{ dst := some 5, op := Op.assign (Operand.tmp 7), type := 36, pos := "iter.go:51", after := #[], guard := none }] false
def apBody : Code := Code.block 1 (Code.region 3 #[{ dst := some 8, op := Op.load 88 (Operand.tmp 2), type := 88, pos := "iter.go:52", after := #[], guard := none }, { dst := some 9, op := Op.move (Operand.tmp 5), type := 36, pos := "iter.go:52", after := #[], guard := none }, { dst := some 10, op := Op.buildSlice 88 1 #[(0, Operand.tmp 9)], type := 88, pos := "iter.go:52", after := #[{ on := 1, ground := Ground.data }], guard := none }, { dst := some 11, op := Op.call { callee := Callee.builtin Builtin.append, args := #[Operand.tmp 8, Operand.tmp 10], argTypes := #[88, 88] }, type := 88, pos := "iter.go:52", after := #[{ on := 0, ground := Ground.data }, { on := 2, ground := Ground.data }], guard := none }, { dst := none, op := Op.store 88 (Operand.tmp 2) (Operand.tmp 11), type := 0, pos := "iter.go:52", after := #[{ on := 3, ground := Ground.data }, { on := 3, ground := Ground.chain }, { on := 0, ground := Ground.phase }, { on := 1, ground := Ground.phase }, { on := 2, ground := Ground.phase }, { on := 3, ground := Ground.phase }], guard := none }] false)
/-- the loop's record. -/
def apRec (fn : FuncId) (sv : Value) (Bs D : Nat) (st : LoopState) (pend : Option Code) : Loop :=
  { state := st, pending := pend, fn, tmps := #[.slice none 0 0, sv, .pointer (some ⟨Bs, 0, none⟩), undef, .slice none 0 0, undef, sv, undef, undef, undef, undef, undef, undef], params := #[7], assign := apAssign, body := apBody, defers := D }
/-- between two rounds of the loop. -/
structure ApAt (w0 : World) (fn : FuncId) (sv : Value) (Bs l D : Nat) (ss : List Int) (W : World) : Prop where
  box : ∃ v, W.heap[Bs]? = some (.cells #[v] 88 (0, 0)) ∧ W.ownsRow w0.heap.size 36 1 v ss.length (Sr.ivs ss)
  L : W.heap[l]? = some (.loop (apRec fn sv Bs D .ready none))
  K : W.heap[D]? = some (.deferred (some []))
  below : Below w0.heap.size w0 W
theorem ap_abides (w0 : World) (fn : FuncId) (sv : Value) (Bs l D B : Nat) (hB : w0.heap.size ≤ B) : AbidesFrom B (ApAt w0 fn sv Bs l D) := fun s W W' row h hg hrow => by
  have hrow' : ∀ r, row = some r → ∃ o : Obj, W.heap[r]? = some o ∧ o.isWalk = true := fun r e => (hrow r e).2
  obtain ⟨v, hv, hr⟩ := h.box
  exact ⟨⟨v, (grownBy_keeps hg hrow' hv rfl).trans hv, ownsRow_abides_a hr hg hrow'⟩, (grownBy_keeps hg hrow' h.L rfl).trans h.L, (grownBy_keeps hg hrow' h.K rfl).trans h.K, h.below.grown hg h.below.size (fun k e => Nat.le_trans hB (hrow k e).1)⟩
theorem ne25 {cur cur' : Array Value} {z z' : Nat × Nat} : Obj.cells cur 88 z ≠ .cells cur' 36 z' := fun e => by
  have := (Obj.cells.inj e).2.1
  cases this
set_option maxRecDepth 100000 in
set_option maxHeartbeats 2000000 in
theorem ap_yield (F : Fence) (m : Nat) (w0 : World) (fn : FuncId) (hfn : F.fn fn) (sv : Value) (Bs l D : Nat) (hBl : Bs ≠ l) (hDl : D ≠ l) (hDB : D ≠ Bs) (h0B : w0.heap.size ≤ Bs) (h0l : w0.heap.size ≤ l)
    (N : Nat) (hN : N ≤ 1000000000000) (ss : List Int) (x : Int) (W : World) (h : ApAt w0 fn sv Bs l D ss W) (hlen : ss.length < N) :
    YieldAt F m Tryz.prog l #[ivU x] W fun e W' => e = .returned (.bool true) ∧ ApAt w0 fn sv Bs l D (ss ++ [x]) W' ∧ KeepsWalks W W' := by
  obtain ⟨i0, hi, hz0, hz1, hz2⟩ : ∃ i0, Tryz.prog.info? 36 = some i0 ∧ i0.zero = some (.int .u32 0) ∧ i0.size = 1 ∧ i0.bytes = 4 := by
    have := Sr.infoU
    cases hh : Tryz.prog.info? 36 with
    | none => rw [hh] at this; cases this
    | some i => rw [hh] at this; simp at this; exact ⟨i, rfl, this.1, this.2.1, this.2.2⟩
  obtain ⟨v, hv, hrow⟩ := h.box
  refine ⟨fn, #[.slice none 0 0, sv, .pointer (some ⟨Bs, 0, none⟩), undef, .slice none 0 0, undef, sv, ivU x, undef, undef, undef, undef, undef], apAssign, apBody, by simpa [apRec] using run_yield (P := Tryz.prog) (args := #[ivU x]) h.L rfl, roundIn_of_wpIn hfn ?_⟩
  have hl : l < W.heap.size := (Array.getElem?_eq_some_iff.1 h.L).1
  have hbr := run_beginRound (P := Tryz.prog) h.L rfl
  obtain ⟨W2, hW2⟩ : ∃ W2, W.putObj l (.loop { apRec fn sv Bs D .ready none with state := .busy }) = W2 := ⟨_, rfl⟩
  rw [hW2] at hbr
  have hg2 : W.grownBy W2 (some l) := by rw [← hW2]; exact grownBy_putObj_a _ _ _
  have hk2 : KeepsWalks W W2 := by rw [← hW2]; exact KeepsWalks.putObj _ h.L rfl
  have hv2 : W2.heap[Bs]? = some (.cells #[v] 88 (0, 0)) := by rw [← hW2]; exact (World.putObj_heap_other hBl).trans hv
  have hK2 : W2.heap[D]? = some (.deferred (some [])) := by rw [← hW2]; exact (World.putObj_heap_other hDl).trans h.K
  have hL2 : W2.heap[l]? = some (.loop { apRec fn sv Bs D .ready none with state := .busy }) := by rw [← hW2]; exact World.putObj_heap_same hl
  have hrow2 : W2.ownsRow w0.heap.size 36 1 v ss.length (Sr.ivs ss) := hrow.kept hg2 (ownsRow_ne_a hrow h.L (fun cur e => by cases e))
  have hb2 : Below w0.heap.size w0 W2 := h.below.grown hg2 h.below.size (fun k e => by cases e; exact h0l)
  obtain ⟨hc2, hf2⟩ := cell_of_box_a hv2
  have hBlt : Bs < W2.heap.size := (Array.getElem?_eq_some_iff.1 hv2).1
  have hl2 : l < W2.heap.size := (Array.getElem?_eq_some_iff.1 hL2).1
  have hDlt : D < W2.heap.size := (Array.getElem?_eq_some_iff.1 hK2).1
  have ne_of : ∀ {j : Nat} {o : Obj}, W2.heap[j]? = some o → (∀ cur, o ≠ .cells cur 36 (0, 0)) → some j ≠ v.ownBlock := fun hj hno => by
    rcases ownsRow_ne_a hrow2 hj hno with e | e
    · rw [e]; simp
    · exact fun e' => e e'.symm
  clear hW2
  unfold apAssign ivU
  gi_wp2_with gi_round_op_a
  unfold apBody
  gi_wp2_with (first
    | (gi_at_builtin; refine wpListIn_append_own _ rfl _ _ 88 rfl w0.heap.size 36 i0 (.int .u32 0) 1 4 Tryz.underlying88 hi hz0 hz1 hz2 rfl (by decide) _ _ _ rfl (hrow2.alloc _) ⟨W2.heap.size, 0, none⟩ 1 1 [.int .u32 x] rfl rfl (cell_one_new _ _ _) (by simp [Value.oneCell']) (by unfold maxLen; omega) (by omega) (by have := hb2.size; simp; omega) ?_; intro v' w3 hown' hg3 hnil3
       have hv3 : w3.heap[Bs]? = some (.cells #[v] 88 (0, 0)) := (hg3.block Bs (by simp; omega) (ne_of hv2 (fun cur e => ne25 e))).trans ((Below.heap_alloc _ _ Bs hBlt).trans hv2)
       obtain ⟨hc3, hf3⟩ := cell_of_box_a hv3
       obtain ⟨g', cap', cur', rfl, hbase', hgb', hr1, hr2, hr3, hr4⟩ : ∃ g' cap' cur', v' = .slice (some ⟨g', 0, none⟩) (ss.length + 1) cap' ∧ w0.heap.size ≤ g' ∧ w3.heap[g']? = some (.cells cur' 36 (0, 0)) ∧ ss.length + 1 ≤ cap' ∧ cap' ≤ maxLen ∧ cur'.size = cap' * 1 ∧ cur'.toList.take ((ss.length + 1) * 1) = Sr.ivs ss ++ [.int .u32 x] := by
         rcases hown'.2 with ⟨_, h0⟩ | h'
         · exact absurd h0 (by omega)
         · exact h'
       go_frame)
    | gi_round_op_a)
  have hg3' : (W2.alloc (.cells #[.int .u32 x] 36)).grownBy w3 v.ownBlock := hg3
  have hL3 : w3.heap[l]? = some (.loop { apRec fn sv Bs D .ready none with state := .busy }) := (hg3'.block l (by simp; omega) (ne_of hL2 (fun cur e => by cases e))).trans ((Below.heap_alloc _ _ l hl2).trans hL2)
  have hK3 : w3.heap[D]? = some (.deferred (some [])) := (hg3'.block D (by simp; omega) (ne_of hK2 (fun cur e => by cases e))).trans ((Below.heap_alloc _ _ D hDlt).trans hK2)
  obtain ⟨w4, hw4⟩ : ∃ w4, w3.setCell ⟨Bs, 0, none⟩ (.slice (some ⟨g', 0, none⟩) (ss.length + 1) cap') = w4 := ⟨_, rfl⟩
  rw [hw4]
  have hg4 : w3.grownBy w4 (some Bs) := by rw [← hw4]; exact grownBy_setCell0_a _ _ _
  have hv4 : w4.heap[Bs]? = some (.cells #[.slice (some ⟨g', 0, none⟩) (ss.length + 1) cap'] 88 (0, 0)) := by rw [← hw4]; exact heap_setCell_box_a _ hv3
  have hL4 : w4.heap[l]? = some (.loop { apRec fn sv Bs D .ready none with state := .busy }) := (hg4.block l (Array.getElem?_eq_some_iff.1 hL3).1 (fun e => hBl (by cases e; rfl))).trans hL3
  have hK4 : w4.heap[D]? = some (.deferred (some [])) := (hg4.block D (Array.getElem?_eq_some_iff.1 hK3).1 (fun e => hDB (by cases e; rfl))).trans hK3
  have hrow4 := hown'.kept hg4 (ownsRow_ne_a hown' hv3 (fun cur e => ne25 e))
  have hl4 : l < w4.heap.size := (Array.getElem?_eq_some_iff.1 hL4).1
  have hb3 : Below w0.heap.size w0 w3 := (hb2.alloc hb2.size _).grown hg3' (by have := hb2.size; simp; omega) (fun k e => (hrow2.lt k e).1)
  have hb4 : Below w0.heap.size w0 w4 := hb3.grown hg4 hb3.size (fun k e => by cases e; exact h0B)
  have hk4 : KeepsWalks W w4 := ((hk2.trans (KeepsWalks.alloc _ _)).trans (KeepsWalks.of_grownBy hg3' (ownsRow_not_walk_a (hrow2.alloc _)))).trans (by rw [← hw4]; exact KeepsWalks.setCell _ _ _)
  clear hw4
  refine ⟨_, _, run_endRound none hL4, rfl, ⟨⟨_, (World.putObj_heap_other hBl).trans hv4, ?_⟩, World.putObj_heap_same hl4, (World.putObj_heap_other hDl).trans hK4, hb4.grown (grownBy_putObj_a _ _ _) hb4.size (fun k e => by cases e; exact h0l)⟩, hk4.trans (KeepsWalks.putObj _ hL4 rfl)⟩
  have := hrow4.kept (grownBy_putObj_a w4 l (.loop { { apRec fn sv Bs D .ready none with state := .busy } with state := if (none : Option Code).isNone then .ready else .done, pending := none })) (ownsRow_ne_a hrow4 hL4 (fun cur e => by cases e))
  rw [ivs_snoc, List.length_append]
  exact this
set_option maxRecDepth 100000 in
set_option maxHeartbeats 2000000 in
theorem ap_seq (F : Fence) (n : Nat) (h64 : F.fn 79) (hro : F.round = none) (hn : 2 ≤ n) (g : Nat) (lb : Array Value) (hFg : F.fn g) (eg : ∀ args w, (callFunc g args).run Tryz.prog w = .ok (.enter g args) w)
    (S : List Int → Prop) (N : Nat) (hN : N ≤ 1000000000000) (w : World) (hseq : SeqGives F (n - 1) Tryz.prog g lb ivU S N w) :
    CallsIn F n Tryz.prog 79 #[.slice none 0 0, .func (.func g) #[] lb] w fun e w' => ∃ (v : Value) (ss : List Int), e = .returned v ∧ S ss ∧ w'.ownsRow w.heap.size 36 1 v ss.length (Sr.ivs ss) ∧ Below w.heap.size w w' := by
  have h1 : 1 ≤ n := by omega
  refine callsIn_of_wp_marks Tryz.func79 rfl h64 ?_ hro
  simp only [Tryz.ntmps79, List.size_toArray, List.length_cons, List.length_nil, Nat.reduceAdd, Nat.reduceSub, Array.replicate_succ, Array.replicate_zero, List.push_toArray, List.append_toArray, List.nil_append, List.cons_append]
  gi_wp2
  refine wpIn_rangeFunc ?_
  intro fn hfn
  rw [hro]
  obtain ⟨W0, hW0⟩ : ∃ W0, w.alloc (.cells #[.slice none 0 0] 88) = W0 := ⟨_, rfl⟩
  have hs0 : W0.heap.size = w.heap.size + 1 := by rw [← hW0]; simp
  have hv0 : W0.heap[w.heap.size]? = some (.cells #[.slice none 0 0] 88 (0, 0)) := by rw [← hW0]; exact World.alloc_heap_new w _
  have hb0 : Below w.heap.size w W0 := by rw [← hW0]; exact (Below.refl _ w).alloc (Nat.le_refl _) _
  rw [hW0]
  obtain ⟨W1, hW1⟩ : ∃ W1, (W0.alloc (.deferred (some []))).alloc (.loop (apRec fn (.func (.func g) #[] lb) w.heap.size W0.heap.size .ready none)) = W1 := ⟨_, rfl⟩
  have hold : ∀ k, k < W0.heap.size → W1.heap[k]? = W0.heap[k]? := fun k hk => by
    rw [← hW1]; exact (Below.heap_alloc _ _ k (by simp; omega)).trans (Below.heap_alloc _ _ k hk)
  have hb1 : Below w.heap.size w W1 := by rw [← hW1]; exact (hb0.alloc hb0.size _).alloc (by have := hb0.size; simp; omega) _
  have hM : ApAt w fn (.func (.func g) #[] lb) w.heap.size (W0.heap.size + 1) W0.heap.size [] W1 :=
    ⟨⟨_, (hold w.heap.size (by omega)).trans hv0, ⟨rfl, .inl ⟨rfl, rfl⟩⟩⟩,
     by rw [← hW1]; have := World.alloc_heap_new (W0.alloc (.deferred (some []))) (.loop (apRec fn (.func (.func g) #[] lb) w.heap.size W0.heap.size .ready none)); rwa [World.size_alloc] at this,
     by rw [← hW1]; exact (Below.heap_alloc _ _ _ (by simp)).trans (World.alloc_heap_new W0 _), hb1⟩
  refine ⟨W0.heap.size + 1, [{ target := .collected W0.heap.size, args := #[] }], W1, { target := .fn (.func g) lb, args := #[.func (.yield (W0.heap.size + 1)) #[] #[]] }, W1, g,
    #[.func (.yield (W0.heap.size + 1)) #[] #[]] ++ lb, W1, ?_, ?_, ?_, ?_, fun _ => h1, ?_⟩
  · rw [← hW1]; exact run_enterLoop_outer _ _ _ _ _
  · simp [resolve, go_sem]
  · intro f' hf'; simp [Target.leads] at hf'; subst hf'; exact hFg
  · simp [invoke, go_sem, eg]
  · refine (hseq (W0.heap.size + 1) (ApAt w fn (.func (.func g) #[] lb) w.heap.size (W0.heap.size + 1) W0.heap.size) W1 hb1 (ap_abides _ _ _ _ _ _ _ hb1.size)
      (fun pre x W hJ hl => ap_yield F (n - 1 - 1) w fn hfn _ w.heap.size (W0.heap.size + 1) W0.heap.size (by omega) (by omega) (by omega) (Nat.le_refl _) (by omega) N hN pre x W hJ hl) hM).mono ?_
    rintro e W2 ⟨⟨v0, rfl⟩, ss, hS, h2⟩
    obtain ⟨v, hv, hrow⟩ := h2.box
    have hend := run_endLoop (P := Tryz.prog) h2.L (by simp [apRec])
    obtain ⟨W3, hW3⟩ : ∃ W3, W2.putObj (W0.heap.size + 1) (.loop { apRec fn (.func (.func g) #[] lb) w.heap.size W0.heap.size .ready none with state := .exhausted }) = W3 := ⟨_, rfl⟩
    rw [hW3] at hend
    have hg3 : W2.grownBy W3 (some (W0.heap.size + 1)) := by rw [← hW3]; exact grownBy_putObj_a _ _ _
    have hv3 : W3.heap[w.heap.size]? = some (.cells #[v] 88 (0, 0)) := by rw [← hW3]; exact (World.putObj_heap_other (by omega)).trans hv
    have hK3 : W3.heap[W0.heap.size]? = some (.deferred (some [])) := by rw [← hW3]; exact (World.putObj_heap_other (by omega)).trans h2.K
    have hrow3 := hrow.kept hg3 (ownsRow_ne_a hrow h2.L (fun cur e => by cases e))
    have hb3 : Below w.heap.size w W3 := h2.below.grown hg3 h2.below.size (fun k e => by cases e; omega)
    obtain ⟨hc3, hf3⟩ := cell_of_box_a hv3
    clear hW3
    refine ⟨none, W3, hend, ?_⟩
    gi_wp2
    rw [← hs0]
    refine ⟨by simp, .inl ⟨_, _, rfl, run_takeDeferred hK3, ?_⟩⟩
    exact ⟨_, results_tmp rfl _ _ _, v, ss, rfl, hS, hrow3.kept (grownBy_putObj_a _ _ _) (ownsRow_ne_a hrow3 hK3 (fun cur e => by cases e)), hb3.grown (grownBy_putObj_a _ _ _) hb3.size (fun k e => by cases e; omega)⟩
/-- numbers in a slice. -/
def Uz (w : World) (p : Option Addr) (l : List Int) : Prop := ∀ i (h : i < l.length), ∃ b off, p = some ⟨b, off, none⟩ ∧ b < w.heap.size ∧ w.cell? ⟨b, off + i, none⟩ = some (.int .u32 l[i])
set_option maxHeartbeats 8000000
set_option maxRecDepth 100000
attribute [local go_sem ↓] Go.wp_at_zero Go.wp_at_succ
/-- slices.Sort of one's own: the same numbers, rising. -/
theorem sort_own {base : Nat} {w : World} {p : Option Addr} {c : Nat} {l : List Int} (h : w.ownsRow base 36 1 (.slice p l.length c) l.length (Sr.ivs l)) (hn : l.length ≤ 1000000000000) :
    Calls Tryz.prog 58 #[.slice p l.length c] w fun e w' => e = .returned (.tuple #[]) ∧ ∃ l', l'.Perm l ∧ l'.Pairwise (· ≤ ·) ∧ Uz w' p l' ∧ Kp (fun b => base ≤ b) w w' := by
  by_cases h0 : l.length = 0
  · have e : l = [] := List.length_eq_zero_iff.1 h0
    subst e
    refine (Sr.sort0 p c w).mono ?_
    rintro e w' ⟨rfl, rfl⟩
    exact ⟨rfl, [], List.Perm.refl _, List.Pairwise.nil, fun i hi => by simp at hi, Kp.refl _ _⟩
  · obtain ⟨g, rfl, hb, hz⟩ := Sr.own_uz rfl (by omega) h
    refine (Sr.sort_so g c l.length l w hz (by omega)).mono ?_
    rintro e w' ⟨rfl, l', ⟨hp, hs⟩, hu, hk⟩
    refine ⟨rfl, l', hp, hs, fun i hi => ?_, ⟨hk.os, hk.tape, hk.output, hk.size, fun b hb2 hne => hk.obj b hb2 (fun e => hne (by rw [e]; exact hb))⟩⟩
    have hi2 : i < l.length := by rw [← hp.length_eq]; exact hi
    have hc := hu.cell hi2
    obtain ⟨cur, h1, _⟩ := hu.row
    refine ⟨g, 0, rfl, row_lt h1, ?_⟩
    rw [Nat.zero_add, hc]
    unfold Sr.gd
    rw [List.getD_eq_getElem?_getD, List.getElem?_eq_getElem hi]
    rfl
theorem keys_any (o : Option Nat) (w : World) : Calls Tryz.prog 28 #[.map o] w fun e w' => e = .returned (.func (.func 59) #[] #[.pointer (some ⟨w.heap.size, 0, none⟩)]) ∧ w' = w.alloc (.cells #[.map o] 85) := by
  go_enter Tryz.func28, Tryz.ntmps28
  go_wp2
  go_ret
  exact ⟨rfl, rfl⟩
theorem collect_any (lb : Array Value) (S : List Int → Prop) (N : Nat) (hN : N ≤ 1000000000000) (w : World) (hseq : SeqGives Fence.wide 1 Tryz.prog 59 lb ivU S N w) :
    Calls Tryz.prog 57 #[.func (.func 59) #[] lb] w fun e w' => ∃ (v : Value) (ss : List Int), e = .returned v ∧ S ss ∧ w'.ownsRow w.heap.size 36 1 v ss.length (Sr.ivs ss) ∧ Below w.heap.size w w' := by
  have C := hid (callsIn_wide.1 (ap_seq Fence.wide 2 trivial rfl (by decide) 59 lb trivial (enters_of Tryz.func59 (by kernel_rfl) rfl) S N hN w hseq))
  clear hseq
  go_enter Tryz.func57, Tryz.ntmps57
  go_wp2_with (go_at_call 79; with_reducible refine C.out.mono ?_; rintro e w' ⟨v, ss, rfl, h1, h2, h3⟩; have H1 := hid h1; have H2 := hid h2; have H3 := hid h3; clear h1 h2 h3)
  go_ret
  exact ⟨v, ss, rfl, H1.out, H2.out, H3.out⟩
theorem sorted_any (lb : Array Value) (f : Int → Option Int) (N : Nat) (hN : N ≤ 1000000000000) (w : World) (hseq : SeqGives Fence.wide 1 Tryz.prog 59 lb ivU (fun ss => Ks f ss ∧ ss.length ≤ N) N w) :
    Calls Tryz.prog 27 #[.func (.func 59) #[] lb] w fun e w' => ∃ (l : List Int) (q : Option Addr) (d : Nat), e = .returned (.slice q l.length d) ∧ Ks f l ∧ l.Pairwise (· ≤ ·) ∧ l.length ≤ N ∧ Uz w' q l ∧ Below w.heap.size w w' := by
  have C := hid (collect_any lb _ N hN w hseq)
  clear hseq
  go_enter Tryz.func27, Tryz.ntmps27
  go_upto_region 2 with (go_at_call 57; with_reducible refine C.out.mono ?_; rintro e w1 ⟨v, ss, rfl, ⟨h1, h4⟩, h2, h3⟩; obtain ⟨q, d, rfl⟩ := own_form h2; have H1 := hid h1; have H2 := hid h2; have H3 := hid h3; have H4 := hid h4; clear h1 h2 h3 h4)
  have CS := hid (sort_own H2.out (by have := H4.out; omega))
  obtain ⟨n, hn⟩ : ∃ n, ss.length = n := ⟨_, rfl⟩
  have HN := hid hn
  rw [hn] at CS ⊢
  clear hn C
  go_wp2_with (go_at_call 58; with_reducible refine CS.out.mono ?_; rintro e w4 ⟨rfl, l', hp, hs, hu, hkk⟩; have HP := hid hp; have HS := hid hs; have HU := hid hu; have HKK := hid hkk; clear hp hs hu hkk)
  go_ret
  exact ⟨l', q, d, by rw [HP.out.length_eq, HN.out]; rfl, H1.out.perm HP.out, HS.out, by rw [HP.out.length_eq]; exact H4.out, HU.out, H3.out.trans (HKK.out.below H3.out.size (fun j hj e => by omega))⟩
/-- what slices.Sorted of maps.Keys says of a map. -/
theorem keysOf_any {w : World} {b k : Nat} {f : Int → Option Int} (h : Mp kvU w b k f) (hk : k ≤ 1000000000000) :
    ∃ W, Calls Tryz.prog 28 #[.map (some b)] w (fun e w' => e = .returned (.func (.func 59) #[] #[.pointer (some ⟨w.heap.size, 0, none⟩)]) ∧ w' = W) ∧ Below w.heap.size w W ∧
      Calls Tryz.prog 27 #[.func (.func 59) #[] #[.pointer (some ⟨w.heap.size, 0, none⟩)]] W fun e w' => ∃ (l : List Int) (q : Option Addr) (d : Nat), e = .returned (.slice q l.length d) ∧ Ks f l ∧ l.Pairwise (· ≤ ·) ∧ l.length ≤ k ∧ Uz w' q l ∧ Below W.heap.size W w' := by
  obtain ⟨W, hW⟩ : ∃ W, w.alloc (.cells #[.map (some b)] 85) = W := ⟨_, rfl⟩
  have HB : Below w.heap.size w W := by rw [← hW]; exact ball _ _
  have hcell : W.cell? ⟨w.heap.size, 0, none⟩ = some (.map (some b)) := by
    have : W.heap[w.heap.size]? = some (.cells #[.map (some b)] 85 (0, 0)) := by rw [← hW]; exact World.alloc_heap_new _ _
    exact row_cell this 0
  obtain ⟨N, hN, hseq⟩ := ky_gives Fence.wide 1 trivial rfl (Nat.le_refl _) w.heap.size b k f W (by rw [← hW]; simp) hcell (h.on HB)
  refine ⟨W, by rw [← hW]; exact keys_any _ w, HB, (sorted_any _ f N (by omega) W hseq).mono ?_⟩
  rintro e w' ⟨l, q, d, h1, h2, h3, h4, h5⟩
  exact ⟨l, q, d, h1, h2, h3, by omega, h5⟩
end Go.Proofs.YtlhbgaiiehljpaaGreat.Ac
