/-
  told: what All tells of bytes, in a slice of one's own. Written by mkwt.py.
-/
import Derived.Test.YtndpihbillfhbaaDoorWaR
namespace Go.Proofs.YtndpihbillfhbaaDoor
open Go.RowKit Go.Deep Crc
set_option linter.unusedVariables false
set_option linter.unusedSimpArgs false
set_option maxRecDepth 100000
set_option maxHeartbeats 4000000
attribute [local go_sem] Oper.semAt_some
theorem row_cell {w : World} {X : Nat} {c : Array Value} {ty : TypeId} {fz : Nat × Nat} (h : w.heap[X]? = some (.cells c ty fz)) (i : Nat) : w.cell? ⟨X, i, none⟩ = c[i]? := by
  simp [World.cell?, h]
/-- what is told, cell by cell. -/
def pw (x : Value × Int) : List Value := x.1.cells.toList ++ [.int .i64 x.2]
def pws (l : List (Value × Int)) : List Value := l.flatMap pw
theorem pws_append (a b : List (Value × Int)) : pws (a ++ b) = pws a ++ pws b := by simp [pws]
/-- frames and errors in a slice of one's own. -/
def OwW (base : Nat) (w : World) (v : Value) (l : List (Value × Int)) : Prop := w.ownsRow base 61 9 v l.length (pws l)
theorem info61all : (Tryd.prog.info? 61).map (fun i => (i.zero, i.size, i.bytes)) = some (some (.agg #[.int .u8 0, .int .u64 0, .int .u64 0, .int .u64 0, .int .u64 0, .int .u64 0, .int .u64 0, .int .u64 0, .int .i64 0]), 9, 72) := by kernel_rfl
theorem own_same {base : Nat} {w w' : World} {e : TypeId} {size n : Nat} {v : Value} {xs : List Value} (h : w.ownsRow base e size v n xs) (hs : ∀ g, v.ownBlock = some g → w'.heap[g]? = w.heap[g]?) : w'.ownsRow base e size v n xs := by
  obtain ⟨h1, h2 | ⟨g, c, cur, rfl, r1, r2, r3⟩⟩ := h
  · exact ⟨h1, .inl h2⟩
  · exact ⟨h1, .inr ⟨g, c, cur, rfl, r1, (hs g rfl).trans r2, r3⟩⟩
theorem own_ty {base : Nat} {w : World} {e : TypeId} {size n : Nat} {v : Value} {xs : List Value} (h : w.ownsRow base e size v n xs) {g : Nat} (hg : v.ownBlock = some g) : ∃ cur, w.heap[g]? = some (.cells cur e (0, 0)) := by
  obtain ⟨h1, ⟨rfl, _⟩ | ⟨g', c, cur, rfl, r1, r2, r3⟩⟩ := h
  · cases hg
  · cases hg; exact ⟨cur, r2⟩
def rfAs : Code → Option Code
  | .rangeFunc _ _ s _ => some s
  | .seq a b => (rfAs a).or (rfAs b)
  | .block _ c => rfAs c
  | .loop c => rfAs c
  | .scope c => rfAs c
  | .cond _ a b => (rfAs a).or (rfAs b)
  | _ => none
def rfOf : Code → Option Code
  | .rangeFunc _ _ _ b => some b
  | .seq a b => (rfOf a).or (rfOf b)
  | .block _ c => rfOf c
  | .loop c => rfOf c
  | .scope c => rfOf c
  | .cond _ a b => (rfOf a).or (rfOf b)
  | _ => none
/-- what stands in told. -/
structure Tw (w : World) (OUT : Nat) (vs : List (Value × Int)) (W : World) : Prop where
  out : ∃ v, W.heap[OUT]? = some (.cells #[v] 58 (0, 0)) ∧ OwW w.heap.size W v vs
  bel : Below w.heap.size w W
  geO : w.heap.size ≤ OUT
theorem Tw.on {w : World} {OUT : Nat} {vs : List (Value × Int)} {W W' : World} (h : Tw w OUT vs W) (b : Below W.heap.size W W') : Tw w OUT vs W' := by
  obtain ⟨v, h1, h2⟩ := h.out
  refine ⟨⟨v, (b.block _ (Array.getElem?_eq_some_iff.1 h1).1).trans h1, own_same h2 (fun g hg => ?_)⟩, h.bel.trans (b.mono h.bel.size), h.geO⟩
  obtain ⟨cur, e⟩ := own_ty h2 hg
  exact b.block _ (Array.getElem?_eq_some_iff.1 e).1
theorem blind_tw {w : World} {B OUT : Nat} {vs : List (Value × Int)} (hB : w.heap.size ≤ B) : Blind B (fun W => Tw w OUT vs W) := fun W W' row h hg hr => by
  have nc : ∀ {g : Nat} {o : Obj}, W.heap[g]? = some o → o.isCells = true → W'.heap[g]? = W.heap[g]? := fun {g o} h1 h2 => by
    refine hg.block g (Array.getElem?_eq_some_iff.1 h1).1 (fun e => ?_)
    obtain ⟨_, o', h3, h4⟩ := hr _ e.symm
    rw [h1] at h3; cases h3; rw [h2] at h4; cases h4
  obtain ⟨v, h1, h2⟩ := h.out
  refine ⟨⟨v, (nc h1 rfl).trans h1, own_same h2 (fun g hg => ?_)⟩, h.bel.grown hg (by have := h.bel.size; omega) (fun k e => by have := (hr _ e).1; omega), h.geO⟩
  obtain ⟨cur, e⟩ := own_ty h2 hg
  exact nc e rfl
/-- a round: what is told is laid behind. -/
theorem tdB {w W : World} (OUT F l m : Nat) (hm : 1 ≤ m) {c : Code} (hc : (Tryd.f23.body.bind rfOf) = some c) (u0 u1 u2 u4 u7 u8 u9 u10 u11 u12 u13 u14 u15 u16 u17 u18 u19 u20 u21 u22 u23 u24 : Value) (k a0 a1 a2 a3 a4 a5 a6 : Nat) (E : Int) (vs : List (Value × Int))
    (h : Tw w OUT vs W) (hF : W.heap[F]? = some (.cells #[.int .u8 (k : Nat), .int .u64 (a0 : Nat), .int .u64 (a1 : Nat), .int .u64 (a2 : Nat), .int .u64 (a3 : Nat), .int .u64 (a4 : Nat), .int .u64 (a5 : Nat), .int .u64 (a6 : Nat)] 31 (0, 0))) (hn : vs.length ≤ 1099511627776)
    {Q : Exit → Act → World → Prop} (hQ : ∀ a' W', Tw w OUT (vs ++ [(.agg #[.int .u8 (k : Nat), .int .u64 (a0 : Nat), .int .u64 (a1 : Nat), .int .u64 (a2 : Nat), .int .u64 (a3 : Nat), .int .u64 (a4 : Nat), .int .u64 (a5 : Nat), .int .u64 (a6 : Nat)], E)]) W' → (∀ (k : Nat) (o : Obj), W.heap[k]? = some o → o.isCells = false → W'.heap[k]? = some o) → W.heap.size ≤ W'.heap.size → (∀ (k : Nat) (cs : Array Value), W.heap[k]? = some (Obj.cells cs 5 (0, 0)) → W'.heap[k]? = some (Obj.cells cs 5 (0, 0))) → Q .normal a' W') :
    c.wpIn (Fence.wide.inRound l) m Tryd.prog Q { tmps := #[u0, u1, u2, .pointer (some ⟨OUT, 0, none⟩), u4, .pointer (some ⟨F, 0, none⟩), .int .i64 E, u7, u8, u9, u10, u11, u12, u13, u14, u15, u16, u17, u18, u19, u20, u21, u22, u23, u24], defers := [] } W := by
  simp only [Tryd.f23, rfOf, Option.bind, Option.or] at hc
  injection hc with hc
  subst hc
  obtain ⟨v, hO, hown⟩ := h.out
  obtain ⟨i0, hi, hz0, hz1, hz2⟩ := info_parts info61all
  have HQ := hid hQ
  have HT := hid h
  have HOR := hid hO
  have mO := row_cell hO 0
  have f0 := row_cell hF 0
  have f1 := row_cell hF 1
  have f2 := row_cell hF 2
  have f3 := row_cell hF 3
  have f4 := row_cell hF 4
  have f5 := row_cell hF 5
  have f6 := row_cell hF 6
  have f7 := row_cell hF 7
  simp only [List.getElem?_toArray, List.getElem?_cons_zero, List.getElem?_cons_succ] at mO f0 f1 f2 f3 f4 f5 f6 f7
  obtain ⟨WA, hWA⟩ : ∃ WA, W.alloc (.cells #[.int .u8 (k : Nat), .int .u64 (a0 : Nat), .int .u64 (a1 : Nat), .int .u64 (a2 : Nat), .int .u64 (a3 : Nat), .int .u64 (a4 : Nat), .int .u64 (a5 : Nat), .int .u64 (a6 : Nat), .int .i64 E] 61) = WA := ⟨_, rfl⟩
  have bA : Below W.heap.size W WA := by rw [← hWA]; exact (Below.refl _ W).alloc (Nat.le_refl _) _
  have rA : WA.heap[W.heap.size]? = some (.cells #[.int .u8 (k : Nat), .int .u64 (a0 : Nat), .int .u64 (a1 : Nat), .int .u64 (a2 : Nat), .int .u64 (a3 : Nat), .int .u64 (a4 : Nat), .int .u64 (a5 : Nat), .int .u64 (a6 : Nat), .int .i64 E] 61 (0, 0)) := by rw [← hWA]; exact World.alloc_heap_new _ _
  have HA := hid (h.on bA)
  have hownA : OwW w.heap.size WA v vs := by
    refine own_same hown (fun g hg => ?_)
    obtain ⟨cur, e⟩ := own_ty hown hg
    exact bA.block _ (Array.getElem?_eq_some_iff.1 e).1
  have HOW := hid hownA
  have HBA := hid bA
  have hOA := (bA.block _ (Array.getElem?_eq_some_iff.1 hO).1).trans hO
  have HOA := hid hOA
  have HRA := hid rA
  have HWA := hid hWA
  have HIN := hid (And.intro hi (And.intro hz0 (And.intro hz1 hz2)))
  have wb : w.heap.size ≤ WA.heap.size := Nat.le_trans h.bel.size bA.size
  have cellsA : ∀ j u, (pw (.agg #[.int .u8 (k : Nat), .int .u64 (a0 : Nat), .int .u64 (a1 : Nat), .int .u64 (a2 : Nat), .int .u64 (a3 : Nat), .int .u64 (a4 : Nat), .int .u64 (a5 : Nat), .int .u64 (a6 : Nat)], E))[j]? = some u → WA.cell? ((⟨W.heap.size, 0, none⟩ : Addr).add j) = some u := fun j u hj => by
    have : (⟨W.heap.size, 0, none⟩ : Addr).add j = ⟨W.heap.size, j, none⟩ := by simp [Addr.add]; intro h; exact h.symm
    rw [this, row_cell rA j]
    simpa [pw, Value.cells] using hj
  have HCA := hid cellsA
  clear h hO hown hi hz0 hz1 hz2 hQ bA hownA hOA rA cellsA
  clear hWA
  gi_wp2_with (first
    | (gi_at_builtin; rw [HWA.out]; refine wpListIn_append_own _ rfl _ _ 58 rfl w.heap.size 61 i0 (.agg #[.int .u8 0, .int .u64 0, .int .u64 0, .int .u64 0, .int .u64 0, .int .u64 0, .int .u64 0, .int .u64 0, .int .i64 0]) 9 72 Tryd.underlying58 HIN.out.1 HIN.out.2.1 HIN.out.2.2.1 HIN.out.2.2.2 rfl (by decide) v vs.length (pws vs) rfl HOW.out ⟨W.heap.size, 0, none⟩ 1 1 (pw (.agg #[.int .u8 (k : Nat), .int .u64 (a0 : Nat), .int .u64 (a1 : Nat), .int .u64 (a2 : Nat), .int .u64 (a3 : Nat), .int .u64 (a4 : Nat), .int .u64 (a5 : Nat), .int .u64 (a6 : Nat)], E)) rfl rfl HCA.out (by simp [pw, Value.cells, Value.oneCell']) (by unfold maxLen; omega) (by omega) wb ?_; intro v2 w2 o2 g2 n2; have HO2 := hid o2; have HG2 := hid g2; clear o2 g2 n2; refine Hid.out ?_))
  clear HCA HIN
  obtain ⟨pp, nn, cc, hv2⟩ : ∃ pp nn cc, v2 = .slice pp nn cc := by
    obtain ⟨_, ⟨e, _⟩ | ⟨g', c', cur, e, _⟩⟩ := HO2.out
    · exact ⟨_, _, _, e⟩
    · exact ⟨_, _, _, e⟩
  subst hv2
  have hO2 : w2.heap[OUT]? = some (.cells #[v] 58 (0, 0)) := by
    rw [HG2.out.block OUT (Array.getElem?_eq_some_iff.1 HOA.out).1 (fun e => by
      obtain ⟨cur, e2⟩ := own_ty HOW.out e.symm
      rw [HOA.out] at e2; simp at e2)]
    exact HOA.out
  have mO2 := row_cell hO2 0
  simp only [List.getElem?_toArray, List.getElem?_cons_zero, List.getElem?_cons_succ] at mO2
  have fO2 := frozen_of_row w2 OUT 0 _ _ hO2
  refine hid ?_
  gi_wp2_with fail
  have rO : (w2.setCell ⟨OUT, 0, none⟩ (.slice pp nn cc)).heap[OUT]? = some (.cells #[.slice pp nn cc] 58 (0, 0)) := by
    rw [heap_setCell_same w2 OUT 0 _ 58 _ hO2]; rfl
  have other : ∀ j, j ≠ OUT → (w2.setCell ⟨OUT, 0, none⟩ (.slice pp nn cc)).heap[j]? = w2.heap[j]? := fun j hj => heap_setCell_other _ _ _ _ (by show j ≠ OUT; exact hj)
  have bel2 : Below w.heap.size w w2 := by
    have b1 : Below w.heap.size w WA := HA.out.bel
    exact b1.grown HG2.out b1.size (fun j hj => by
      obtain ⟨h1, ⟨rfl, _⟩ | ⟨g', c', cur, rfl, r1, _⟩⟩ := HOW.out
      · cases hj
      · cases hj; exact r1)
  have keep : ∀ (j : Nat) (o : Obj), W.heap[j]? = some o → (∀ cur, o ≠ .cells cur 61 (0, 0)) → (∀ cur, o ≠ .cells cur 58 (0, 0)) → (w2.setCell ⟨OUT, 0, none⟩ (.slice pp nn cc)).heap[j]? = some o := fun j o ho n1 n2 => by
    have hA1 := (HBA.out.block _ (Array.getElem?_eq_some_iff.1 ho).1).trans ho
    have ne : j ≠ OUT := by rintro rfl; rw [HOA.out] at hA1; cases hA1; exact n2 _ rfl
    rw [other j ne, HG2.out.block j (Array.getElem?_eq_some_iff.1 hA1).1 (fun e => by
      obtain ⟨cur, e2⟩ := own_ty HOW.out e.symm
      rw [hA1] at e2; cases e2; exact n1 _ rfl)]
    exact hA1
  refine HQ.out _ _ ⟨⟨_, rO, ?_⟩, bel2.setCell (by show w.heap.size ≤ OUT; exact HT.out.geO) _, HT.out.geO⟩ (fun j o ho hc => keep j o ho (fun cur e => by subst e; cases hc) (fun cur e => by subst e; cases hc)) ?_ (fun j cs ho => keep j _ ho (fun cur e => by simp at e) (fun cur e => by simp at e))
  · have h1 : OwW w.heap.size w2 (.slice pp nn cc) (vs ++ [(.agg #[.int .u8 (k : Nat), .int .u64 (a0 : Nat), .int .u64 (a1 : Nat), .int .u64 (a2 : Nat), .int .u64 (a3 : Nat), .int .u64 (a4 : Nat), .int .u64 (a5 : Nat), .int .u64 (a6 : Nat)], E)]) := by
      unfold OwW
      rw [pws_append, List.length_append]
      simpa [pws] using HO2.out
    refine own_same h1 (fun g hg => other g ?_)
    rintro rfl
    obtain ⟨cur, e2⟩ := own_ty h1 hg
    rw [hO2] at e2; simp at e2
  · have h1 := HBA.out.size
    have h2 := HG2.out.size
    have h3 : (w2.setCell ⟨OUT, 0, none⟩ (.slice pp nn cc)).heap.size = w2.heap.size := by simp [World.setCell]
    omega
theorem laid_on {w W : World} (h : Laid w) (b : Below w.heap.size w W) : Laid W := fun k hk => by
  rw [b.cell (p := ⟨0, k, none⟩) (block_lt_of_cell (h k hk))]; exact h k hk
theorem nilf (f : Fn) (x y : Array Value) (w : World) : Sem.run Tryd.prog (binOp BinOp.eql 39 (Value.func f x y) Value.nilFunc) w = .ok (.bool false) w := rfl
theorem told_any (p : Option Addr) (n c : Nat) (xs : List Nat) (w : World) (hS : Sx w (.slice p n c) xs) (hx : Oct xs) (hlen : xs.length ≤ 1099511627776) (hL : Laid w) :
    Calls Tryd.prog 23 #[.slice p n c] w fun e w' => ∃ v' vs, e = .returned v' ∧ Tl (chs xs) vs ∧ OwW w.heap.size w' v' vs ∧ Below w.heap.size w w' := by
  have HA := hid (fun u => allF_any p n c u)
  have NF := hid nilf
  have HS := hid hS
  have HX := hid hx
  have HL := hid hL
  have HB := hid (chs_bound xs)
  have HB2 := hid (show Below w.heap.size w ((w.alloc (.cells #[.slice none 0 0] 58)).alloc (.cells #[.slice p n c] 22)) from ((Below.refl _ w).alloc (Nat.le_refl _) _).alloc (by simp) _)
  have HT0 := hid (show Tw w w.heap.size [] ((w.alloc (.cells #[.slice none 0 0] 58)).alloc (.cells #[.slice p n c] 22)) from by
    refine ⟨⟨.slice none 0 0, ?_, ⟨rfl, .inl ⟨rfl, rfl⟩⟩⟩, HB2.out, Nat.le_refl _⟩
    rw [Below.heap_alloc _ _ _ (by simp)]; exact World.alloc_heap_new _ _)
  have HCX := hid (show ((w.alloc (.cells #[.slice none 0 0] 58)).alloc (.cells #[.slice p n c] 22)).heap[w.heap.size + 1]? = some (.cells #[.slice p n c] 22 (0, 0)) from by
    have := World.alloc_heap_new (w.alloc (.cells #[.slice none 0 0] 58)) (.cells #[.slice p n c] 22)
    simpa using this)
  clear hS hx hL
  refine (callsIn_wide (n := 5)).1 ?_
  refine callsIn_of_wp_marks Tryd.func23 rfl trivial ?_ rfl
  refine wpIn_wide.2 ?_
  simp only [Tryd.ntmps23, List.size_toArray, List.length_cons, List.length_nil, Nat.reduceAdd, Nat.reduceSub, Array.replicate_succ, Array.replicate_zero, List.push_toArray, List.append_toArray, List.nil_append, List.cons_append]
  go_wp2_with (first | (go_at_call 17; with_reducible refine (HA.out _).mono ?_; rintro e w3 ⟨rfl, h3⟩; subst w3))
  rw [NF.out]
  go_wp2_with fail
  refine (wpIn_wide (n := 5)).1 ?_
  refine range_all (by omega) (CX := w.heap.size + 1) (xs := xs) (v := .slice p n c) rfl rfl (row_cell HCX.out 0) (HS.out.to HB2.out) HX.out (by omega)
    (fun r W => ∃ done vs, done ++ r = chs xs ∧ Tl done vs ∧ Tw w w.heap.size vs W)
    (fun cd W => False)
    ?hI ?hIx ?hgr ?hLd ?h0
    (fun W0 V E => { tmps := #[.slice p n c, undef, .slice none 0 0, .pointer (some ⟨w.heap.size, 0, none⟩), .func (.func 28) #[] #[.pointer (some ⟨w.heap.size + 1, 0, none⟩)], .pointer (some ⟨W0.heap.size, 0, none⟩), .int .i64 E, .slice p n c, .func (.func 28) #[] #[.pointer (some ⟨w.heap.size + 1, 0, none⟩)], .func (.func 28) #[] #[.pointer (some ⟨w.heap.size + 1, 0, none⟩)], .bool false, undef, undef, undef, undef, .func (.func 28) #[] #[.pointer (some ⟨w.heap.size + 1, 0, none⟩)], V, .int .i64 E, undef, undef, undef, undef, undef, undef, undef], defers := [] })
    (fun V E => .cells V.cells 31 (0, 0))
    ?assign ?body ?done ?stop
  case hI =>
    rintro r W W' row ⟨d, vs, h1, h2, h3⟩ hg hr
    exact ⟨d, vs, h1, h2, blind_tw (B := w.heap.size + 2) (by omega) W W' row h3 hg (fun q e => by
      obtain ⟨g1, g2⟩ := hr q e
      refine ⟨?_, g2⟩
      have e1 : ((w.alloc (.cells #[.slice none 0 0] 58)).alloc (.cells #[.slice p n c] 22)).heap.size = w.heap.size + 2 := by simp
      omega)⟩
  case hIx => rintro cd W W' row hf; exact hf.elim
  case hgr =>
    rintro r W W' ⟨d, vs, h1, h2, h3⟩ hw
    exact ⟨d, vs, h1, h2, h3.on hw⟩
  case hLd =>
    rintro r W ⟨d, vs, h1, h2, h3⟩
    exact laid_on HL.out h3.bel
  case h0 => exact ⟨[], [], rfl, trivial, HT0.out⟩
  case assign =>
    intro l ck V E W K hU hK
    obtain ⟨k, a0, a1, a2, a3, a4, a5, a6, rfl⟩ := hU.form
    gi_wp2_with fail
    exact hK
  case body =>
    rintro l ck V E r W0 W hsz hU ⟨d, vs, h1, h2, h3⟩ hob
    obtain ⟨k, a0, a1, a2, a3, a4, a5, a6, rfl⟩ := hU.form
    refine tdB w.heap.size W0.heap.size l _ (by omega) (by rfl) _ _ _ _ _ _ _ _ _ _ _ _ _ _ _ _ _ _ _ _ _ _ k a0 a1 a2 a3 a4 a5 a6 E vs h3 hob ?_ ?_
    · have e1 := h2.len
      have e2 := congrArg List.length h1
      have e3 := HB.out
      simp at e2
      omega
    · intro a' W' g1 g2 g3 g4
      exact ⟨⟨g3, g2⟩, fun j cs hj hc => g4 j cs hc, d ++ [ck], vs ++ [_], by simpa using h1, h2.append ⟨hU, trivial⟩, g1⟩
  case done =>
    rintro D W hD ⟨d, vs, h1, h2, h3⟩ hd'
    rw [List.append_nil] at h1
    subst h1
    obtain ⟨v', hO, hown⟩ := h3.out
    have mO := row_cell hO 0
    simp only [List.getElem?_toArray, List.getElem?_cons_zero, List.getElem?_cons_succ] at mO
    have HT := hid h3
    have HOW := hid hown
    have HTL := hid h2
    have HDD := hid hd'
    have HDG := hid (Nat.le_trans HB2.out.size hD)
    obtain ⟨pp, nn, cc, hv2⟩ : ∃ pp nn cc, v' = .slice pp nn cc := by
      obtain ⟨_, ⟨e, _⟩ | ⟨g', c', cur, e, _⟩⟩ := hown
      · exact ⟨_, _, _, e⟩
      · exact ⟨_, _, _, e⟩
    subst hv2
    clear h3 hown h2 hd' hD hO
    go_wp2_with fail
    refine ⟨by simp, .inl ⟨_, _, rfl, run_takeDeferred HDD.out, ?_⟩⟩
    refine ⟨_, results_tmp rfl _ _ _, _, vs, rfl, HTL.out, ?_, HT.out.bel.trans (belowK_b (w := w) (Nat.le_refl _) W D _ _ HDG.out HDD.out rfl rfl)⟩
    refine own_same HOW.out (fun g hg => World.putObj_heap_other ?_)
    rintro rfl
    obtain ⟨cur, e⟩ := own_ty HOW.out hg
    rw [HDD.out] at e; cases e
  case stop =>
    rintro D cd W hD hf; exact hf.elim
end Go.Proofs.YtndpihbillfhbaaDoor
