/-
  What stands in goes; the bodies of its two loops over All. Written by mkgo.py.
-/
import Derived.Test.YthidnipmkffilaaIyK
import Derived.Test.YthidnipmkffilaaIxRg
namespace Go.Proofs.Ythidnipmkffilaa
open Go.RowKit Go.Deep
set_option linter.unusedVariables false
set_option linter.unusedSimpArgs false
set_option maxRecDepth 100000
set_option maxHeartbeats 8000000
attribute [local go_sem] Oper.semAt_some
/-- an operation. -/
structure OpI where
  kd : Int
  ot : Bool
  ky : Int
  v : Int
  nn : Int
def oprow (o : OpI) : Array Value := #[.int .i64 o.kd, .bool o.ot, .int .u64 o.ky, .int .i64 o.v, .int .i64 o.nn]
/-- where all of it lies. -/
structure Gc where
  X : Nat
  P : Nat
  R : Nat
  Q : Nat
  n : Nat
  room : Nat
  B0 : Nat
  B1 : Nat
  RC : Nat
  WC : Nat
  m : Nat
  c : Nat
  p : Option Addr
  L : List (Int × Int)
  o : OpI
  T0 : Ix.Tab
structure Gs (W0 : World) (G : Gc) (T : Ix.Tab) (U : World) : Prop where
  lx : Lx U G.X G.P G.n G.room T
  tx : Ix.Tidy G.n (hm G.n) T
  rx : Rx U G.R G.Q G.n G.room G.T0
  b0 : U.heap[G.B0]? = some (.cells #[.pointer (some ⟨G.X, 0, none⟩), .pointer (some ⟨G.R, 0, none⟩)] 25 (0, 0))
  b1 : U.heap[G.B1]? = some (.cells (oprow G.o) 40 (0, 0))
  rc : U.heap[G.RC]? = some (.cells #[.bool false] 4 (0, 0))
  wc : U.heap[G.WC]? = some (.cells #[.slice G.p G.m G.c] 31 (0, 0))
  ow : U.ownsRow W0.heap.size 74 3 (.slice G.p G.m G.c) G.m (pvs G.L)
  kp : Kp (fun b => b = G.X ∨ b = G.P ∨ b = G.R ∨ b = G.Q) W0 U
theorem ow_keep {w w' : World} {B : Nat → Prop} {base : Nat} {n : Nat} {v : Value} {xs : List Value} (h : w.ownsRow base 74 3 v n xs) (k : Kp B w w') (hB : ∀ g, v.ownBlock = some g → ¬ B g) : w'.ownsRow base 74 3 v n xs := by
  obtain ⟨h0, h1⟩ := h
  refine ⟨h0, h1.imp id ?_⟩
  rintro ⟨g, c, cur, rfl, e2, e3, r⟩
  exact ⟨g, c, cur, rfl, e2, k.row e3 (hB g rfl), r⟩
theorem Gs.keep {W0 : World} {G : Gc} {T T' : Ix.Tab} {U V : World} {B : Nat → Prop} (h : Gs W0 G T U) (k : Kp B U V) (hl : Lx V G.X G.P G.n G.room T') (ht : Ix.Tidy G.n (hm G.n) T') (nR : ¬ B G.R) (nQ : ¬ B G.Q) (n0 : ¬ B G.B0) (n1 : ¬ B G.B1) (nr : ¬ B G.RC) (nw : ¬ B G.WC) (no : ∀ g, (Value.slice G.p G.m G.c).ownBlock = some g → ¬ B g) (low : ∀ g, g < W0.heap.size → B g → g = G.X ∨ g = G.P ∨ g = G.R ∨ g = G.Q) : Gs W0 G T' V :=
  ⟨hl, ht, h.rx.kp k nR nQ, k.row h.b0 n0, k.row h.b1 n1, k.row h.rc nr, k.row h.wc nw, ow_keep h.ow k no, ⟨k.os.trans h.kp.os, k.tape.trans h.kp.tape, k.output.trans h.kp.output, Nat.le_trans h.kp.size k.size, fun g hg hn => (k.obj g (Nat.lt_of_lt_of_le hg h.kp.size) (fun hb => hn (low g hg hb))).trans (h.kp.obj g hg hn)⟩⟩
theorem Gs.on {W0 : World} {G : Gc} {T : Ix.Tab} {U V : World} (h : Gs W0 G T U) (b : Below U.heap.size U V) : Gs W0 G T V :=
  have k := Kp.ofBelow (fun _ => False) b
  h.keep k (h.lx.kp k (fun h => h) (fun h => h)) h.tx (fun h => h) (fun h => h) (fun h => h) (fun h => h) (fun h => h) (fun h => h) (fun _ _ h => h) (fun _ _ h => h.elim)
theorem Lx.isP' {w : World} {X P n room : Nat} {T : Ix.Tab} (h : Lx w X P n room T) : ∃ cs, w.heap[P]? = some (.cells cs 71 (0, 0)) := by
  obtain ⟨cs, h1, _⟩ := h.pl; exact ⟨cs, h1⟩
theorem Rx.isP' {w : World} {X P n room : Nat} {T : Ix.Tab} (h : Rx w X P n room T) : ∃ cs, w.heap[P]? = some (.cells cs 74 (0, 0)) := by
  obtain ⟨cs, h1, _⟩ := h.pl; exact ⟨cs, h1⟩
/-- a block of another kind is none of these. -/
theorem Gs.not {W0 : World} {G : Gc} {T : Ix.Tab} {U : World} (h : Gs W0 G T U) {Z : Nat} {o : Obj} (hz : U.heap[Z]? = some o) (hne : ∀ c t, o = .cells c t (0, 0) → t ≠ 69 ∧ t ≠ 71 ∧ t ≠ 33 ∧ t ≠ 74 ∧ t ≠ 25 ∧ t ≠ 40 ∧ t ≠ 31 ∧ t ≠ 4) :
    (Z ≠ G.X ∧ Z ≠ G.P ∧ Z ≠ G.R ∧ Z ≠ G.Q ∧ Z ≠ G.B0 ∧ Z ≠ G.B1 ∧ Z ≠ G.WC ∧ Z ≠ G.RC) ∧ (∀ g, (Value.slice G.p G.m G.c).ownBlock = some g → Z ≠ g) := by
  obtain ⟨c1, e1⟩ := h.lx.isP'
  obtain ⟨c2, e2⟩ := h.rx.isP'
  refine ⟨⟨?_, ?_, ?_, ?_, ?_, ?_, ?_, ?_⟩, ?_⟩
  · rintro rfl; rw [h.lx.row] at hz; injection hz with hz; exact (hne _ _ hz.symm).1 rfl
  · rintro rfl; rw [e1] at hz; injection hz with hz; exact (hne _ _ hz.symm).2.1 rfl
  · rintro rfl; rw [h.rx.row] at hz; injection hz with hz; exact (hne _ _ hz.symm).2.2.1 rfl
  · rintro rfl; rw [e2] at hz; injection hz with hz; exact (hne _ _ hz.symm).2.2.2.1 rfl
  · rintro rfl; rw [h.b0] at hz; injection hz with hz; exact (hne _ _ hz.symm).2.2.2.2.1 rfl
  · rintro rfl; rw [h.b1] at hz; injection hz with hz; exact (hne _ _ hz.symm).2.2.2.2.2.1 rfl
  · rintro rfl; rw [h.wc] at hz; injection hz with hz; exact (hne _ _ hz.symm).2.2.2.2.2.2.1 rfl
  · rintro rfl; rw [h.rc] at hz; injection hz with hz; exact (hne _ _ hz.symm).2.2.2.2.2.2.2 rfl
  · rintro g hg rfl
    obtain ⟨_, ⟨ea, _⟩ | ⟨g', c', cur, ea, _, eb, _⟩⟩ := h.ow
    · rw [ea] at hg; cases hg
    · rw [ea] at hg
      injection hg with hg
      subst hg
      rw [eb] at hz; injection hz with hz; exact (hne _ _ hz.symm).2.2.2.1 rfl
/-- a cell of one's own is written. -/
theorem Gs.cell {W0 : World} {G : Gc} {T : Ix.Tab} {U : World} (h : Gs W0 G T U) {Z : Nat} {c : Array Value} (hz : U.heap[Z]? = some (.cells c 3 (0, 0))) (hw : W0.heap.size ≤ Z) (v : Value) : Gs W0 G T (U.setCell ⟨Z, 0, none⟩ v) := by
  obtain ⟨⟨a1, a2, a3, a4, a5, a6, a7, a8⟩, a9⟩ := h.not hz (fun c t e => by injection e with _ e _; subst e; decide)
  have k := Kp.setCell (B := fun b => b = Z) (w := U) (g := Z) rfl 0 v
  exact h.keep k (h.lx.kp k (Ne.symm a1) (Ne.symm a2)) h.tx (Ne.symm a3) (Ne.symm a4) (Ne.symm a5) (Ne.symm a6) (Ne.symm a8) (Ne.symm a7) (fun g hg e => a9 g hg e.symm) (fun g hg e => by subst e; omega)
theorem Gs.blind {W0 : World} {G : Gc} {T : Ix.Tab} {B : Nat} (hB : W0.heap.size ≤ B) : Blind B (fun W => Gs W0 G T W) := fun W W' row h hg hr => by
  have nc : ∀ {g : Nat} {c : Array Value} {t : TypeId}, W.heap[g]? = some (.cells c t (0, 0)) → ¬ (some g = row) := fun {g c t} h1 e => by
    obtain ⟨_, o', h3, h4⟩ := hr _ e.symm
    rw [h1] at h3; cases h3; cases h4
  have k : Kp (fun g => some g = row) W W' := ⟨hg.os, hg.tape, hg.output, hg.size, fun g hl hn => hg.block g hl hn⟩
  obtain ⟨c1, e1⟩ := h.lx.isP'
  obtain ⟨c2, e2⟩ := h.rx.isP'
  refine h.keep k (h.lx.kp k (nc h.lx.row) (nc e1)) h.tx (nc h.rx.row) (nc e2) (nc h.b0) (nc h.b1) (nc h.rc) (nc h.wc) (fun g hg' => ?_) (fun g hl e => by have := (hr _ e.symm).1; omega)
  obtain ⟨_, ⟨ea, _⟩ | ⟨g', c', cur, ea, _, eb, _⟩⟩ := h.ow
  · rw [ea] at hg'; cases hg'
  · rw [ea] at hg'
    injection hg' with hg'
    subst hg'
    exact nc eb
theorem blind_row3 {B k : Nat} {c : Array Value} {t : TypeId} : Blind B (fun W => W.heap[k]? = some (.cells c t (0, 0))) := fun W W' row h hg hr => by
  rw [← h]
  refine hg.block k (Array.getElem?_eq_some_iff.1 h).1 (fun e => ?_)
  obtain ⟨_, o', h1, h2⟩ := hr _ e.symm
  rw [h] at h1; cases h1; cases h2
def rfA1 : Code → Option Code
  | .rangeFunc _ _ s _ => some s
  | .seq a b => (rfA1 a).or (rfA1 b)
  | .block _ c => rfA1 c
  | .loop c => rfA1 c
  | .scope c => rfA1 c
  | .cond _ a b => (rfA1 a).or (rfA1 b)
  | _ => none
def rfB1 : Code → Option Code
  | .rangeFunc _ _ _ b => some b
  | .seq a b => (rfB1 a).or (rfB1 b)
  | .block _ c => rfB1 c
  | .loop c => rfB1 c
  | .scope c => rfB1 c
  | .cond _ a b => (rfB1 a).or (rfB1 b)
  | _ => none
def rfA2 : Code → Option Code
  | .rangeFunc _ _ s _ => some s
  | .seq a b => (rfA2 b).or (rfA2 a)
  | .block _ c => rfA2 c
  | .loop c => rfA2 c
  | .scope c => rfA2 c
  | .cond _ a b => (rfA2 a).or (rfA2 b)
  | _ => none
def rfB2 : Code → Option Code
  | .rangeFunc _ _ _ b => some b
  | .seq a b => (rfB2 b).or (rfB2 a)
  | .block _ c => rfB2 c
  | .loop c => rfB2 c
  | .scope c => rfB2 c
  | .cond _ a b => (rfB2 a).or (rfB2 b)
  | _ => none
/-- what is wanted next. -/
theorem Gs.want {W0 : World} {G : Gc} {T : Ix.Tab} {U : World} (h : Gs W0 G T U) (hlm : G.L.length = G.m) {d r : List (Int × Int)} {k v : Int} (hL : d ++ (k, v) :: r = G.L) : d.length < G.m ∧ ∃ g, G.p = some ⟨g, 0, none⟩ ∧ U.cell? ⟨g, d.length * 3 + 1, none⟩ = some (.int .u64 k) ∧ U.cell? ⟨g, d.length * 3 + 2, none⟩ = some (.int .i64 v) := by
  have hlt : d.length < G.m := by rw [← hlm, ← hL]; simp
  refine ⟨hlt, ?_⟩
  have how := h.ow
  obtain ⟨h0, ⟨e1, e2⟩ | ⟨g, c', cur, e, r1, r2, r3, r4, r5, r6⟩⟩ := how
  · omega
  · have e1 := (Value.slice.inj e).1
    refine ⟨g, e1, ?_⟩
    have h2 := h.ow
    rw [e1] at h2
    obtain ⟨_, a1, a2, _⟩ := own_cells3 h2 hlt (x := (k, v)) (by rw [← hL]; simp)
    exact ⟨a1, a2⟩
theorem gB1 {W0 W : World} (G : Gc) (T : Ix.Tab) (N RD CX : Nat) (rd k v : Int) (d r : List (Int × Int)) (l m' : Nat) (hmm : 1 ≤ m') {c : Code} (hc : (Try.f29.body.bind rfB1) = some c) (u0 u1 u11 u12 u13 u14 u15 u16 u17 u18 u19 u20 u21 u22 u23 u24 u25 u26 u27 u28 u29 u33 u34 u35 u36 u37 u38 u39 u40 u41 u42 u43 u44 u45 u46 u47 u48 u49 u50 u51 u52 u53 u54 u55 u56 u57 u58 u59 u60 u61 u62 u63 u64 u65 u66 u67 u68 u69 u70 u71 u72 u73 u74 u75 u76 u77 u78 u79 u80 u81 u82 u83 u84 u85 u86 u87 u88 u89 u90 u91 u92 u93 u94 u95 u96 u97 u98 u99 u100 u101 u102 u103 u104 u105 u106 u107 u108 u109 u110 u111 u112 u113 u114 u115 u116 u117 u118 u119 u120 u121 u122 u123 u124 u125 u126 u127 u128 u129 u130 u131 u132 u133 u134 u135 u136 u137 u138 u139 u140 u141 u142 u143 u144 u145 u146 u147 u148 u149 u150 u151 u152 u153 u154 u155 u156 : Value)
    (h : Gs W0 G T W) (hL : d ++ (k, v) :: r = G.L) (hlm : G.L.length = G.m) (hmx : G.m ≤ 131072) (hN : W.heap[N]? = some (.cells #[.int .i64 (d.length : Nat)] 3 (0, 0))) (hR : W.heap[RD]? = some (.cells #[.int .i64 rd] 3 (0, 0))) (hNR : N ≠ RD) (wN : W0.heap.size ≤ N)
    {Q : Exit → Act → World → Prop}
    (hQ1 : ∀ a' W', Gs W0 G T W' → W'.heap[N]? = some (.cells #[.int .i64 ((d ++ [(k, v)]).length : Nat)] 3 (0, 0)) → W'.heap[RD]? = some (.cells #[.int .i64 rd] 3 (0, 0)) → Kp (fun b => b = N) W W' → Q .normal a' W')
    (hQ2 : ∀ a' W', Gs W0 G T W' → W'.heap[N]? = some (.cells #[.int .i64 G.o.nn] 3 (0, 0)) → W'.heap[RD]? = some (.cells #[.int .i64 rd] 3 (0, 0)) → rd = 0 → Kp (fun b => b = N) W W' → Q (.exit 2) a' W') :
    c.wpIn (Fence.wide.inRound l) m' Try.prog Q { tmps := #[u0, u1, .pointer (some ⟨G.B0, 0, none⟩), .pointer (some ⟨G.B1, 0, none⟩), .pointer (some ⟨G.RC, 0, none⟩), .pointer (some ⟨G.WC, 0, none⟩), .func (.func 35) #[] #[.pointer (some ⟨CX, 0, none⟩)], .pointer (some ⟨RD, 0, none⟩), .pointer (some ⟨N, 0, none⟩), .int .u64 k, .int .i64 v, u11, u12, u13, u14, u15, u16, u17, u18, u19, u20, u21, u22, u23, u24, u25, u26, u27, u28, u29, .func (.func 35) #[] #[.pointer (some ⟨CX, 0, none⟩)], .int .u64 k, .int .i64 v, u33, u34, u35, u36, u37, u38, u39, u40, u41, u42, u43, u44, u45, u46, u47, u48, u49, u50, u51, u52, u53, u54, u55, u56, u57, u58, u59, u60, u61, u62, u63, u64, u65, u66, u67, u68, u69, u70, u71, u72, u73, u74, u75, u76, u77, u78, u79, u80, u81, u82, u83, u84, u85, u86, u87, u88, u89, u90, u91, u92, u93, u94, u95, u96, u97, u98, u99, u100, u101, u102, u103, u104, u105, u106, u107, u108, u109, u110, u111, u112, u113, u114, u115, u116, u117, u118, u119, u120, u121, u122, u123, u124, u125, u126, u127, u128, u129, u130, u131, u132, u133, u134, u135, u136, u137, u138, u139, u140, u141, u142, u143, u144, u145, u146, u147, u148, u149, u150, u151, u152, u153, u154, u155, u156], defers := [] } W := by
  simp only [Try.f29, rfB1, Option.bind, Option.or] at hc
  injection hc with hc
  subst hc
  have HQ1 := hid hQ1
  have HQ2 := hid hQ2
  obtain ⟨hlt, g, hp, w1, w2⟩ := h.want hlm hL
  have cN := row_cell hN 0
  have cR := row_cell hR 0
  have cW := row_cell h.wc 0
  have cO := row_cell h.b1 4
  simp only [oprow, List.getElem?_toArray, List.getElem?_cons_succ, List.getElem?_cons_zero] at cN cR cW cO
  rw [hp] at cW
  have fN := frozen_of_row W N 0 _ _ hN
  have hNn : (W.setCell ⟨N, 0, none⟩ (.int .i64 ((d.length : Int) + 1))).heap[N]? = some (.cells #[.int .i64 ((d ++ [(k, v)]).length : Nat)] 3 (0, 0)) := by
    rw [heap_setCell_same W N 0 _ 3 _ hN]; simp
  have hRn : (W.setCell ⟨N, 0, none⟩ (.int .i64 ((d.length : Int) + 1))).heap[RD]? = some (.cells #[.int .i64 rd] 3 (0, 0)) := by
    rw [heap_setCell_other _ _ _ _ (by show RD ≠ N; exact Ne.symm hNR)]; exact hR
  have HF := hid (And.intro (h.cell hN wN (.int .i64 ((d.length : Int) + 1))) (And.intro hNn (And.intro hRn (Kp.setCell (B := fun b => b = N) (w := W) (g := N) rfl 0 (.int .i64 ((d.length : Int) + 1))))))
  obtain ⟨n1, hn1⟩ : ∃ n1 : Int, (d.length : Int) + 1 = n1 := ⟨_, rfl⟩
  have wj : IntKind.i64.wrap ((d.length : Int) + 1) = n1 := by rw [← hn1]; simp [IntKind.wrap, IntKind.bits, IntKind.signed]; omega
  rw [hn1] at HF
  have HN1 := hid (show n1 = ((d ++ [(k, v)]).length : Nat) by rw [← hn1]; simp)
  obtain ⟨z, hz⟩ : ∃ z, d.length = z := ⟨_, rfl⟩
  rw [hz] at cN hlt w1 w2 wj
  have i1 : ¬ (G.m : Int) ≤ (z : Int) := by omega
  have i2 : (z : Int) < (G.m : Int) := by omega
  have i3 : (0 : Int) ≤ (z : Int) := by omega
  have ct : ((z : Int)).toNat = z := by omega
  have hRN : RD ≠ N := Ne.symm hNR
  have cR2 : (W.setCell ⟨N, 0, none⟩ (.int .i64 n1)).cell? ⟨RD, 0, none⟩ = some (.int .i64 rd) := by have := row_cell HF.out.2.2.1 0; simpa using this
  have cN2 : (W.setCell ⟨N, 0, none⟩ (.int .i64 n1)).cell? ⟨N, 0, none⟩ = some (.int .i64 n1) := by have := row_cell HF.out.2.1 0; rw [← HN1.out] at this; simpa using this
  have cO2 : (W.setCell ⟨N, 0, none⟩ (.int .i64 n1)).cell? ⟨G.B1, 4, none⟩ = some (.int .i64 G.o.nn) := by have := row_cell HF.out.1.b1 4; simpa [oprow] using this
  clear h hL hQ1 hQ2 hN hR hNn hRn hn1 hz hp
  by_cases hr : rd = 0
  · subst hr
    by_cases hn : n1 = G.o.nn
    · have e2 : (n1 == G.o.nn) = true := by simpa using hn
      have HNN := hid hn
      clear hn
      gi_wp2_with fail
      exact HQ2.out _ _ HF.out.1 (HF.out.2.1.trans (by rw [← HN1.out, HNN.out])) HF.out.2.2.1 (by trivial) HF.out.2.2.2
    · have e2 : (n1 == G.o.nn) = false := by simpa using hn
      clear hn
      gi_wp2_with fail
      exact HQ1.out _ _ HF.out.1 HF.out.2.1 HF.out.2.2.1 HF.out.2.2.2
  · have e1 : (rd == 0) = false := by simpa using hr
    clear hr
    gi_wp2_with fail
    exact HQ1.out _ _ HF.out.1 HF.out.2.1 HF.out.2.2.1 HF.out.2.2.2
end Go.Proofs.Ythidnipmkffilaa
